/- The contract of spec.OscRun. -/
import Derived.Test.YtlfbbdeoejafkaaR0
import Derived.Deep.RegionHeld3
import Derived.Deep.DeepCutAuto
import Derived.WalkKit
import Derived.WalkSpells
import Derived.WalkLawsBesides
import Derived.Deep.RegionHeld
namespace Go.Proofs.Ytlfbbdeoejafkaa
open Go.RowKit
set_option linter.unusedVariables false
theorem own_set4n {w : World} {base : Nat} {e : TypeId} {size : Nat} {v : Value} {n : Nat} {xs : List Value} (h : w.ownsRow base e size v n xs) {k : Nat} (hne : ∀ g, v.ownBlock = some g → g ≠ k) (a b c d : Int) : (set4 w k a b c d).ownsRow base e size v n xs :=
  own_set (own_set (own_set (own_set h hne _ _) hne _ _) hne _ _) hne _ _
theorem own_drew {w : World} {base : Nat} {e : TypeId} {size : Nat} {v : Value} {n : Nat} {xs : List Value} (h : w.ownsRow base e size v n xs) : w.drew.ownsRow base e size v n xs := h
theorem cell_drew {w : World} {q : Addr} {u : Option Value} (h : w.cell? q = u) : w.drew.cell? q = u := h
theorem size_drewn {w : World} {b : Nat} (h : b < w.heap.size) : b < w.drew.heap.size := h
set_option maxHeartbeats 1000000 in
theorem specOscRun_bad (n d t c : Int) (a : Option Addr) (m cp : Nat) (w : World) (hm : m ≤ maxLen) (h : runG n d t c m = false) :
    Calls Try.prog 8 #[.agg #[.int .i64 n, .int .i64 d, .int .i64 t, .int .i64 c], .slice a m cp] w fun e w' => ∃ v, e = .returned (.tuple #[v, .int .i64 0]) ∧ w'.ownsRow w.heap.size 42 2 v 0 (prs []) ∧ Below w.heap.size w w' := by
  unfold maxLen at hm
  have B0 := Below.alc w (.cells #[.int .i64 n, .int .i64 d, .int .i64 t, .int .i64 c] 27)
  cases ho : okO n d t c
  · go_enter Try.func8, Try.ntmps8
    go_wp2_with fail
    refine (specOscOk_any _ _ _ _ _).mono ?_
    rintro e w1 ⟨rfl, hb⟩
    rw [ho]
    have B1 := B0.trans (hb.mono B0.size)
    clear hb
    have O1 : (w1.alloc (.cells #[] 42)).ownsRow w.heap.size 42 2 (.slice (some ⟨w1.heap.size, 0, none⟩) 0 0) 0 [] := World.ownsRow_made w1 #[] 0 B1.size (by simp [maxLen]) (by simp)
    have B2 := B1.alloc B1.size (.cells #[] 42)
    go_wp2_with fail
    exact bodyPost_ret (v := .tuple #[.slice (some ⟨w1.heap.size, 0, none⟩) 0 0, .int .i64 0]) (by simp (maxDischargeDepth := 6) [results, Try.results8, go_sem, *]) rfl ⟨_, rfl, O1, B2⟩
  · have hi : decide (200 < (m : Int)) = true := by simp [runG, ho] at h; simp; omega
    go_enter Try.func8, Try.ntmps8
    go_wp2_with fail
    refine (specOscOk_any _ _ _ _ _).mono ?_
    rintro e w1 ⟨rfl, hb⟩
    rw [ho]
    have B1 := B0.trans (hb.mono B0.size)
    clear hb
    have O1 : (w1.alloc (.cells #[] 42)).ownsRow w.heap.size 42 2 (.slice (some ⟨w1.heap.size, 0, none⟩) 0 0) 0 [] := World.ownsRow_made w1 #[] 0 B1.size (by simp [maxLen]) (by simp)
    have B2 := B1.alloc B1.size (.cells #[] 42)
    go_wp2_with fail
    exact bodyPost_ret (v := .tuple #[.slice (some ⟨w1.heap.size, 0, none⟩) 0 0, .int .i64 0]) (by simp (maxDischargeDepth := 6) [results, Try.results8, go_sem, *]) rfl ⟨_, rfl, O1, B2⟩
set_option maxHeartbeats 4000000 in
theorem specOscRun_good (n d t c : Int) (a : Option Addr) (m cp : Nat) (f : Nat → Int × Int) (w : World) (ho : okO n d t c = true) (hm : m ≤ 200) (hs : Src w a m f) :
    Calls Try.prog 8 #[.agg #[.int .i64 n, .int .i64 d, .int .i64 t, .int .i64 c], .slice a m cp] w fun e w' => ∃ v, e = .returned (.tuple #[v, .int .i64 (runN n d t c f m)]) ∧ w'.ownsRow w.heap.size 42 2 v (runN n d t c f m + 1) (prs (mkL n d t c f (runN n d t c f m))) ∧ Below w.heap.size w w' := by
  obtain ⟨i0, hi, hz0, hz1, hz2⟩ := info_parts infoMark
  have B0 := Below.alc w (.cells #[.int .i64 n, .int .i64 d, .int .i64 t, .int .i64 c] 27)
  have P0 := Box4.new w n d t c 27
  have HO : Hid (okO n d t c = true) := ho
  have HS : Hid (Src w a m f) := hs
  have hd : decide (200 < (m : Int)) = false := by simp; omega
  clear hs ho
  go_enter Try.func8, Try.ntmps8
  go_wp2_with fail
  refine (specOscOk_any _ _ _ _ _).mono ?_
  rintro e w2 ⟨rfl, hb⟩
  rw [HO.out]
  have B2 := B0.trans (hb.mono B0.size)
  have P2 := P0.below hb
  clear hb B0 P0
  obtain ⟨a0, a1, a2, a3, a4, a5, a6, a7, a8⟩ := id P2
  have s2 : w.heap.size + 1 ≤ w2.heap.size := P2.1
  have O2 := own_one w2 (w.heap.size + 1) 42 t c s2
  have A2 := Below.alc w2 (.cells #[.int .i64 t, .int .i64 c] 42)
  have P3 := P2.below A2
  have B3 := B2.trans (A2.mono B2.size)
  rw [← mkL_zero n d t c f] at O2
  clear A2 B2
  go_wp2_with fail
  clear P2 a0 a1 a2 a3 a4 a5 a6 a7 a8
  generalize w2.alloc (.cells #[.int .i64 t, .int .i64 c] 42) = v3 at *
  go_loopw [6, 7] (fun v i wr => ∃ k : Nat, k ≤ m ∧ i = .int .i64 k ∧ (∀ i, i < k → stepAt n d t c f i = true) ∧ wr.ownsRow (w.heap.size + 1) 42 2 v (k + 1) (prs (mkL n d t c f k)) ∧ Box4 wr w.heap.size n d (mkM n d t c f k).1 (mkM n d t c f k).2 ∧ Below w.heap.size w wr) (fun _ i _ => m - (intOf i).toNat)
  case atStart => exact ⟨0, Nat.zero_le _, rfl, fun i hi => absurd hi (Nat.not_lt_zero _), O2, P3, B3⟩
  case round =>
    obtain ⟨k, hk, rfl, hall, O, P, B⟩ := hrel
    have HA : Hid (∀ i, i < k → stepAt n d t c f i = true) := hall
    clear hall O2 P3 B3
    by_cases hlt : k < m
    · rcases HS.out.below B with h0 | ⟨b, off, rfl, hp⟩
      · omega
      have e0 : wr.cell? ⟨b, off + k * 2, none⟩ = some (.int .i64 (f k).1) := (hp.2 k hlt).1
      have e1 : wr.cell? ⟨b, off + k * 2 + 1, none⟩ = some (.int .i64 (f k).2) := (hp.2 k hlt).2
      have bwr : b < wr.heap.size := hp.1
      have hli : (k : Int) < (m : Int) := by omega
      obtain ⟨a0, a1, a2, a3, a4, a5, a6, a7, a8⟩ := id P
      clear hp
      have HK := mkM_ok HO.out HA.out
      generalize wr = v at *
      cases hst : stepAt n d t c f k
      · have HR : Hid (runN n d t c f m = k) := runN_stop HA.out hst m hlt
        have hst' : stepB n d (mkM n d t c f k).1 (mkM n d t c f k).2 (f k).1 (f k).2 = false := hst
        go_wp2_with fail
        go_cut [8, 9] (fun s8 s9 wx => ∃ j : Nat, s8 = .pointer (some ⟨j, 0, none⟩) ∧ s9 = .bool false ∧ Box4 wx j n d (mkM n d t c f k).1 (mkM n d t c f k).2 ∧ Box4 wx w.heap.size n d (mkM n d t c f k).1 (mkM n d t c f k).2 ∧ wx.ownsRow (w.heap.size + 1) 42 2 u6 (k + 1) (prs (mkL n d t c f k)) ∧ Below w.heap.size w wx)
        case first =>
          refine wp_region_held_drew (S := (fun w' => w'.cell? ⟨w.heap.size, 0, none⟩ = some (.int .i64 n) ∧ w'.cell? ⟨w.heap.size, 1, none⟩ = some (.int .i64 d) ∧ w'.cell? ⟨w.heap.size, 2, none⟩ = some (.int .i64 (mkM n d t c f k).1) ∧ w'.cell? ⟨w.heap.size, 3, none⟩ = some (.int .i64 (mkM n d t c f k).2) ∧ w'.cell? ⟨b, off + k * 2, none⟩ = some (.int .i64 (f k).1) ∧ w'.cell? ⟨b, off + k * 2 + 1, none⟩ = some (.int .i64 (f k).2))) (by kernel_rfl) ?_ (fun hHeld => ?_)
          · simp (maxDischargeDepth := 6) [go_sem, *]
          clear a0 a1 a2 a3 a4 a5 a6 a7 a8; (try clear n0 n1 n2 n3 n4 n5 n6 n7 n8)
          replace P := P.drew
          replace O := own_drew O
          replace B := B.drew
          replace e0 := cell_drew e0
          replace e1 := cell_drew e1
          replace bwr := size_drewn bwr
          generalize v.drew = v at *
          obtain ⟨a0, a1, a2, a3, a4, a5, a6, a7, a8⟩ := id P; (try (obtain ⟨n0, n1, n2, n3, n4, n5, n6, n7, n8⟩ := id N))
          refine wpAnyH_take (i := 0) (v := ?_) (by rw [List.getElem?_toArray]; rfl) (by kernel_rfl) (by kernel_rfl) (by kernel_rfl) (by intro _ _ _ h; exact h) (Or.inl ⟨by rfl, ?_⟩) (by assumption) ?_
          rotate_left
          · (intro w hSw; (try dsimp only at hSw); go_simp; all_goals with_reducible rfl)
          (try simp only [Act.put, List.setIfInBounds_toArray, List.set_cons_zero, List.set_cons_succ])
          refine wpAnyH_take (i := 1) (v := ?_) (by rw [List.getElem?_toArray]; rfl) (by kernel_rfl) (by kernel_rfl) (by kernel_rfl) (by intro _ _ _ h; exact h) (Or.inl ⟨by rfl, ?_⟩) (by assumption) ?_
          rotate_left
          · (intro w hSw; (try dsimp only at hSw); go_simp; all_goals with_reducible rfl)
          (try simp only [Act.put, List.setIfInBounds_toArray, List.set_cons_zero, List.set_cons_succ])
          refine wpAnyH_take (i := 2) (v := ?_) (by rw [List.getElem?_toArray]; rfl) (by kernel_rfl) (by kernel_rfl) (by kernel_rfl) (by intro _ _ _ h; exact h) (Or.inl ⟨by rfl, ?_⟩) (by assumption) ?_
          rotate_left
          · (intro w hSw; (try dsimp only at hSw); go_simp; all_goals with_reducible rfl)
          (try simp only [Act.put, List.setIfInBounds_toArray, List.set_cons_zero, List.set_cons_succ])
          refine wpAnyH_take (i := 3) (v := ?_) (by rw [List.getElem?_toArray]; rfl) (by kernel_rfl) (by kernel_rfl) (by kernel_rfl) (by intro _ _ _ h; exact h) (Or.inl ⟨by rfl, ?_⟩) (by assumption) ?_
          rotate_left
          · (intro w hSw; (try dsimp only at hSw); go_simp; all_goals with_reducible rfl)
          (try simp only [Act.put, List.setIfInBounds_toArray, List.set_cons_zero, List.set_cons_succ])
          refine wpAnyH_take (i := 4) (v := ?_) (by rw [List.getElem?_toArray]; rfl) (by kernel_rfl) (by kernel_rfl) (by kernel_rfl) (by intro _ _ _ h; exact h) (Or.inl ⟨by rfl, ?_⟩) (by assumption) ?_
          rotate_left
          · (intro w hSw; (try dsimp only at hSw); go_simp; all_goals with_reducible rfl)
          (try simp only [Act.put, List.setIfInBounds_toArray, List.set_cons_zero, List.set_cons_succ])
          refine wpAnyH_ready (rs := [5, 9]) (by kernel_rfl) (by simp) ?_
          refine (AllReadyH.cons (by rw [List.getElem?_toArray]; rfl) (fun K hK => ?_) (AllReadyH.cons (by rw [List.getElem?_toArray]; rfl) (fun K hK => ?_) AllReadyH.nil))
          · go_simp
            refine (specStep_f _ _ _ _ _ _ _ HK hst').mono ?_; rintro e v ⟨rfl, hb⟩; clear a0 a1 a2 a3 a4 a5 a6 a7 a8; (try clear n0 n1 n2 n3 n4 n5 n6 n7 n8); (replace P := P.below hb); (try (replace N := N.below hb)); (replace O := own_below O hb); (replace B := B.trans (hb.mono B.size)); (replace e0 := (hb.cell (p := ⟨b, off + k * 2, none⟩) bwr).trans e0); (replace e1 := (hb.cell (p := ⟨b, off + k * 2 + 1, none⟩) bwr).trans e1); (replace bwr := Nat.lt_of_lt_of_le bwr hb.size); clear hb; obtain ⟨a0, a1, a2, a3, a4, a5, a6, a7, a8⟩ := id P; (try (obtain ⟨n0, n1, n2, n3, n4, n5, n6, n7, n8⟩ := id N))
            (try go_wp2_with fail)
            refine hK.out _ _ ?_ (fun hHeld => ?_)
            · simp (maxDischargeDepth := 6) [go_sem, *]
            clear hK K
            (try simp only [Act.put, List.setIfInBounds_toArray, List.set_cons_zero, List.set_cons_succ])
            refine wpAnyH_take (i := 6) (v := ?_) (by rw [List.getElem?_toArray]; rfl) (by kernel_rfl) (by kernel_rfl) (by kernel_rfl) (by intro _ _ _ h; exact h) (Or.inl ⟨by rfl, ?_⟩) (by assumption) ?_
            rotate_left
            · (intro w hSw; (try dsimp only at hSw); go_simp; all_goals with_reducible rfl)
            (try simp only [Act.put, List.setIfInBounds_toArray, List.set_cons_zero, List.set_cons_succ])
            refine wpAnyH_take (i := 7) (v := ?_) (by rw [List.getElem?_toArray]; rfl) (by kernel_rfl) (by kernel_rfl) (by kernel_rfl) (by intro _ _ _ h; exact h) (Or.inl ⟨by rfl, ?_⟩) (by assumption) ?_
            rotate_left
            · (intro w hSw; (try dsimp only at hSw); go_simp; all_goals with_reducible rfl)
            (try simp only [Act.put, List.setIfInBounds_toArray, List.set_cons_zero, List.set_cons_succ])
            refine wpAnyH_take (i := 8) (v := ?_) (by rw [List.getElem?_toArray]; rfl) (by kernel_rfl) (by kernel_rfl) (by kernel_rfl) (by intro _ _ _ h; exact h) (Or.inl ⟨by rfl, ?_⟩) (by assumption) ?_
            rotate_left
            · (intro w hSw; (try dsimp only at hSw); go_simp; all_goals with_reducible rfl)
            (try simp only [Act.put, List.setIfInBounds_toArray, List.set_cons_zero, List.set_cons_succ])
            refine wpAnyH_ready (rs := [9]) (by kernel_rfl) (by simp) ?_
            refine (AllReadyH.cons (by rw [List.getElem?_toArray]; rfl) (fun K hK => ?_) AllReadyH.nil)
            go_simp
            (have N := Box4.new v 0 0 0 0 27); (have hj : w.heap.size < v.heap.size := a0); (have bj : b < v.heap.size := bwr); (have hjg : ∀ g, u6.ownBlock = some g → g ≠ v.heap.size := fun g hg => by have := (O.lt g hg).2; omega); (have hA := Below.alc v (.cells #[.int .i64 0, .int .i64 0, .int .i64 0, .int .i64 0] 27)); clear a0 a1 a2 a3 a4 a5 a6 a7 a8; (try clear n0 n1 n2 n3 n4 n5 n6 n7 n8); (replace P := P.below hA); (replace O := own_below O hA); (replace B := B.trans (hA.mono B.size)); (replace e0 := (hA.cell (p := ⟨b, off + k * 2, none⟩) bwr).trans e0); (replace e1 := (hA.cell (p := ⟨b, off + k * 2 + 1, none⟩) bwr).trans e1); (replace bwr := Nat.lt_of_lt_of_le bwr hA.size); clear hA; (generalize v.alloc (.cells #[.int .i64 0, .int .i64 0, .int .i64 0, .int .i64 0] 27) = v2 at *); obtain ⟨a0, a1, a2, a3, a4, a5, a6, a7, a8⟩ := id P; (try (obtain ⟨n0, n1, n2, n3, n4, n5, n6, n7, n8⟩ := id N))
            refine hK.out _ _ ?_ (fun hHeld => ?_)
            · simp (maxDischargeDepth := 6) [go_sem, *]
            clear hK K
            (try simp only [Act.put, List.setIfInBounds_toArray, List.set_cons_zero, List.set_cons_succ])
            refine wpAnyH_ready (rs := [10]) (by kernel_rfl) (by simp) ?_
            refine (AllReadyH.cons (by rw [List.getElem?_toArray]; rfl) (fun K hK => ?_) AllReadyH.nil)
            go_simp
            refine hK.out _ _ ?_ (fun hHeld => ?_)
            · simp (maxDischargeDepth := 6) [go_sem, *]
            clear hK K
            (try simp only [Act.put, List.setIfInBounds_toArray, List.set_cons_zero, List.set_cons_succ])
            refine wpAnyH_take (i := 11) (v := ?_) (by rw [List.getElem?_toArray]; rfl) (by kernel_rfl) (by kernel_rfl) (by kernel_rfl) (by intro _ _ _ h; exact h) (Or.inl ⟨by rfl, ?_⟩) (by assumption) ?_
            rotate_left
            · (intro w hSw; (try dsimp only at hSw); go_simp; all_goals with_reducible rfl)
            (try simp only [Act.put, List.setIfInBounds_toArray, List.set_cons_zero, List.set_cons_succ])
            refine wpAnyH_done (by kernel_rfl) ?_ _
            go_wp2_with fail
            go_meet
            case rel => exact ⟨_, rfl, rfl, N.set n d (mkM n d t c f k).1 (mkM n d t c f k).2, P.set4O (by omega) n d (mkM n d t c f k).1 (mkM n d t c f k).2, own_set4n O hjg n d (mkM n d t c f k).1 (mkM n d t c f k).2, Below.set4 B (by omega) n d (mkM n d t c f k).1 (mkM n d t c f k).2⟩
          · go_simp
            (have N := Box4.new v 0 0 0 0 27); (have hj : w.heap.size < v.heap.size := a0); (have bj : b < v.heap.size := bwr); (have hjg : ∀ g, u6.ownBlock = some g → g ≠ v.heap.size := fun g hg => by have := (O.lt g hg).2; omega); (have hA := Below.alc v (.cells #[.int .i64 0, .int .i64 0, .int .i64 0, .int .i64 0] 27)); clear a0 a1 a2 a3 a4 a5 a6 a7 a8; (try clear n0 n1 n2 n3 n4 n5 n6 n7 n8); (replace P := P.below hA); (replace O := own_below O hA); (replace B := B.trans (hA.mono B.size)); (replace e0 := (hA.cell (p := ⟨b, off + k * 2, none⟩) bwr).trans e0); (replace e1 := (hA.cell (p := ⟨b, off + k * 2 + 1, none⟩) bwr).trans e1); (replace bwr := Nat.lt_of_lt_of_le bwr hA.size); clear hA; (generalize v.alloc (.cells #[.int .i64 0, .int .i64 0, .int .i64 0, .int .i64 0] 27) = v2 at *); obtain ⟨a0, a1, a2, a3, a4, a5, a6, a7, a8⟩ := id P; (try (obtain ⟨n0, n1, n2, n3, n4, n5, n6, n7, n8⟩ := id N))
            refine hK.out _ _ ?_ (fun hHeld => ?_)
            · simp (maxDischargeDepth := 6) [go_sem, *]
            clear hK K
            (try simp only [Act.put, List.setIfInBounds_toArray, List.set_cons_zero, List.set_cons_succ])
            refine wpAnyH_ready (rs := [5]) (by kernel_rfl) (by simp) ?_
            refine (AllReadyH.cons (by rw [List.getElem?_toArray]; rfl) (fun K hK => ?_) AllReadyH.nil)
            go_simp
            refine (specStep_f _ _ _ _ _ _ _ HK hst').mono ?_; rintro e v ⟨rfl, hb⟩; clear a0 a1 a2 a3 a4 a5 a6 a7 a8; (try clear n0 n1 n2 n3 n4 n5 n6 n7 n8); (replace P := P.below hb); (try (replace N := N.below hb)); (replace O := own_below O hb); (replace B := B.trans (hb.mono B.size)); (replace e0 := (hb.cell (p := ⟨b, off + k * 2, none⟩) bwr).trans e0); (replace e1 := (hb.cell (p := ⟨b, off + k * 2 + 1, none⟩) bwr).trans e1); (replace bwr := Nat.lt_of_lt_of_le bwr hb.size); clear hb; obtain ⟨a0, a1, a2, a3, a4, a5, a6, a7, a8⟩ := id P; (try (obtain ⟨n0, n1, n2, n3, n4, n5, n6, n7, n8⟩ := id N))
            (try go_wp2_with fail)
            refine hK.out _ _ ?_ (fun hHeld => ?_)
            · simp (maxDischargeDepth := 6) [go_sem, *]
            clear hK K
            (try simp only [Act.put, List.setIfInBounds_toArray, List.set_cons_zero, List.set_cons_succ])
            refine wpAnyH_take (i := 6) (v := ?_) (by rw [List.getElem?_toArray]; rfl) (by kernel_rfl) (by kernel_rfl) (by kernel_rfl) (by intro _ _ _ h; exact h) (Or.inl ⟨by rfl, ?_⟩) (by assumption) ?_
            rotate_left
            · (intro w hSw; (try dsimp only at hSw); go_simp; all_goals with_reducible rfl)
            (try simp only [Act.put, List.setIfInBounds_toArray, List.set_cons_zero, List.set_cons_succ])
            refine wpAnyH_take (i := 7) (v := ?_) (by rw [List.getElem?_toArray]; rfl) (by kernel_rfl) (by kernel_rfl) (by kernel_rfl) (by intro _ _ _ h; exact h) (Or.inl ⟨by rfl, ?_⟩) (by assumption) ?_
            rotate_left
            · (intro w hSw; (try dsimp only at hSw); go_simp; all_goals with_reducible rfl)
            (try simp only [Act.put, List.setIfInBounds_toArray, List.set_cons_zero, List.set_cons_succ])
            refine wpAnyH_take (i := 8) (v := ?_) (by rw [List.getElem?_toArray]; rfl) (by kernel_rfl) (by kernel_rfl) (by kernel_rfl) (by intro _ _ _ h; exact h) (Or.inl ⟨by rfl, ?_⟩) (by assumption) ?_
            rotate_left
            · (intro w hSw; (try dsimp only at hSw); go_simp; all_goals with_reducible rfl)
            (try simp only [Act.put, List.setIfInBounds_toArray, List.set_cons_zero, List.set_cons_succ])
            refine wpAnyH_ready (rs := [10]) (by kernel_rfl) (by simp) ?_
            refine (AllReadyH.cons (by rw [List.getElem?_toArray]; rfl) (fun K hK => ?_) AllReadyH.nil)
            go_simp
            refine hK.out _ _ ?_ (fun hHeld => ?_)
            · simp (maxDischargeDepth := 6) [go_sem, *]
            clear hK K
            (try simp only [Act.put, List.setIfInBounds_toArray, List.set_cons_zero, List.set_cons_succ])
            refine wpAnyH_take (i := 11) (v := ?_) (by rw [List.getElem?_toArray]; rfl) (by kernel_rfl) (by kernel_rfl) (by kernel_rfl) (by intro _ _ _ h; exact h) (Or.inl ⟨by rfl, ?_⟩) (by assumption) ?_
            rotate_left
            · (intro w hSw; (try dsimp only at hSw); go_simp; all_goals with_reducible rfl)
            (try simp only [Act.put, List.setIfInBounds_toArray, List.set_cons_zero, List.set_cons_succ])
            refine wpAnyH_done (by kernel_rfl) ?_ _
            go_wp2_with fail
            go_meet
            case rel => exact ⟨_, rfl, rfl, N.set n d (mkM n d t c f k).1 (mkM n d t c f k).2, P.set4O (by omega) n d (mkM n d t c f k).1 (mkM n d t c f k).2, own_set4n O hjg n d (mkM n d t c f k).1 (mkM n d t c f k).2, Below.set4 B (by omega) n d (mkM n d t c f k).1 (mkM n d t c f k).2⟩
        case rest =>
          obtain ⟨j, rfl, rfl, N, P', O', B'⟩ := hcut
          clear P O B a0 a1 a2 a3 a4 a5 a6 a7 a8 e0 e1 bwr
          go_wp2_with fail
          exact bodyPost_ret (v := .tuple #[u6, .int .i64 (k : Int)]) (by simp (maxDischargeDepth := 6) [results, Try.results8, go_sem, *]) rfl ⟨u6, by rw [HR.out], by rw [HR.out]; exact own_base O' (Nat.le_succ _), B'⟩
      · have hst' : stepB n d (mkM n d t c f k).1 (mkM n d t c f k).2 (f k).1 (f k).2 = true := hst
        have HA2 : Hid (∀ i, i < k + 1 → stepAt n d t c f i = true) := fun i hi => by
          by_cases e : i = k
          · subst e; exact hst
          · exact HA.out i (by omega)
        have C1 : ∀ w', Calls Try.prog 31 #[.agg #[.int .i64 n, .int .i64 d, .int .i64 (mkM n d t c f k).1, .int .i64 (mkM n d t c f k).2], .agg #[.int .i64 (f k).1, .int .i64 (f k).2]] w' fun e w'' => e = .returned (.tuple #[.agg #[.int .i64 n, .int .i64 d, .int .i64 (mkM n d t c f (k + 1)).1, .int .i64 (mkM n d t c f (k + 1)).2], .bool true]) ∧ Below w'.heap.size w' w'' := fun w' => specStep_t _ _ _ _ _ _ w' hst'
        have LA := mkL_add n d t c f k
        generalize hnx : mkM n d t c f (k + 1) = nx at *
        have HX : Hid (mkM n d t c f (k + 1) = nx) := hnx
        clear hnx HA hst hst' HK
        go_wp2_with fail
        go_cut [8, 9] (fun s8 s9 wx => ∃ j : Nat, s8 = .pointer (some ⟨j, 0, none⟩) ∧ s9 = .bool true ∧ Box4 wx j n d nx.1 nx.2 ∧ Box4 wx w.heap.size n d (mkM n d t c f k).1 (mkM n d t c f k).2 ∧ wx.ownsRow (w.heap.size + 1) 42 2 u6 (k + 1) (prs (mkL n d t c f k)) ∧ Below w.heap.size w wx)
        case first =>
          refine wp_region_held_drew (S := (fun w' => w'.cell? ⟨w.heap.size, 0, none⟩ = some (.int .i64 n) ∧ w'.cell? ⟨w.heap.size, 1, none⟩ = some (.int .i64 d) ∧ w'.cell? ⟨w.heap.size, 2, none⟩ = some (.int .i64 (mkM n d t c f k).1) ∧ w'.cell? ⟨w.heap.size, 3, none⟩ = some (.int .i64 (mkM n d t c f k).2) ∧ w'.cell? ⟨b, off + k * 2, none⟩ = some (.int .i64 (f k).1) ∧ w'.cell? ⟨b, off + k * 2 + 1, none⟩ = some (.int .i64 (f k).2))) (by kernel_rfl) ?_ (fun hHeld => ?_)
          · simp (maxDischargeDepth := 6) [go_sem, *]
          clear a0 a1 a2 a3 a4 a5 a6 a7 a8; (try clear n0 n1 n2 n3 n4 n5 n6 n7 n8)
          replace P := P.drew
          replace O := own_drew O
          replace B := B.drew
          replace e0 := cell_drew e0
          replace e1 := cell_drew e1
          replace bwr := size_drewn bwr
          generalize v.drew = v at *
          obtain ⟨a0, a1, a2, a3, a4, a5, a6, a7, a8⟩ := id P; (try (obtain ⟨n0, n1, n2, n3, n4, n5, n6, n7, n8⟩ := id N))
          refine wpAnyH_take (i := 0) (v := ?_) (by rw [List.getElem?_toArray]; rfl) (by kernel_rfl) (by kernel_rfl) (by kernel_rfl) (by intro _ _ _ h; exact h) (Or.inl ⟨by rfl, ?_⟩) (by assumption) ?_
          rotate_left
          · (intro w hSw; (try dsimp only at hSw); go_simp; all_goals with_reducible rfl)
          (try simp only [Act.put, List.setIfInBounds_toArray, List.set_cons_zero, List.set_cons_succ])
          refine wpAnyH_take (i := 1) (v := ?_) (by rw [List.getElem?_toArray]; rfl) (by kernel_rfl) (by kernel_rfl) (by kernel_rfl) (by intro _ _ _ h; exact h) (Or.inl ⟨by rfl, ?_⟩) (by assumption) ?_
          rotate_left
          · (intro w hSw; (try dsimp only at hSw); go_simp; all_goals with_reducible rfl)
          (try simp only [Act.put, List.setIfInBounds_toArray, List.set_cons_zero, List.set_cons_succ])
          refine wpAnyH_take (i := 2) (v := ?_) (by rw [List.getElem?_toArray]; rfl) (by kernel_rfl) (by kernel_rfl) (by kernel_rfl) (by intro _ _ _ h; exact h) (Or.inl ⟨by rfl, ?_⟩) (by assumption) ?_
          rotate_left
          · (intro w hSw; (try dsimp only at hSw); go_simp; all_goals with_reducible rfl)
          (try simp only [Act.put, List.setIfInBounds_toArray, List.set_cons_zero, List.set_cons_succ])
          refine wpAnyH_take (i := 3) (v := ?_) (by rw [List.getElem?_toArray]; rfl) (by kernel_rfl) (by kernel_rfl) (by kernel_rfl) (by intro _ _ _ h; exact h) (Or.inl ⟨by rfl, ?_⟩) (by assumption) ?_
          rotate_left
          · (intro w hSw; (try dsimp only at hSw); go_simp; all_goals with_reducible rfl)
          (try simp only [Act.put, List.setIfInBounds_toArray, List.set_cons_zero, List.set_cons_succ])
          refine wpAnyH_take (i := 4) (v := ?_) (by rw [List.getElem?_toArray]; rfl) (by kernel_rfl) (by kernel_rfl) (by kernel_rfl) (by intro _ _ _ h; exact h) (Or.inl ⟨by rfl, ?_⟩) (by assumption) ?_
          rotate_left
          · (intro w hSw; (try dsimp only at hSw); go_simp; all_goals with_reducible rfl)
          (try simp only [Act.put, List.setIfInBounds_toArray, List.set_cons_zero, List.set_cons_succ])
          refine wpAnyH_ready (rs := [5, 9]) (by kernel_rfl) (by simp) ?_
          refine (AllReadyH.cons (by rw [List.getElem?_toArray]; rfl) (fun K hK => ?_) (AllReadyH.cons (by rw [List.getElem?_toArray]; rfl) (fun K hK => ?_) AllReadyH.nil))
          · go_simp
            refine (C1 _).mono ?_; rintro e v ⟨rfl, hb⟩; clear a0 a1 a2 a3 a4 a5 a6 a7 a8; (try clear n0 n1 n2 n3 n4 n5 n6 n7 n8); (replace P := P.below hb); (try (replace N := N.below hb)); (replace O := own_below O hb); (replace B := B.trans (hb.mono B.size)); (replace e0 := (hb.cell (p := ⟨b, off + k * 2, none⟩) bwr).trans e0); (replace e1 := (hb.cell (p := ⟨b, off + k * 2 + 1, none⟩) bwr).trans e1); (replace bwr := Nat.lt_of_lt_of_le bwr hb.size); clear hb; obtain ⟨a0, a1, a2, a3, a4, a5, a6, a7, a8⟩ := id P; (try (obtain ⟨n0, n1, n2, n3, n4, n5, n6, n7, n8⟩ := id N))
            (try go_wp2_with fail)
            refine hK.out _ _ ?_ (fun hHeld => ?_)
            · simp (maxDischargeDepth := 6) [go_sem, *]
            clear hK K
            (try simp only [Act.put, List.setIfInBounds_toArray, List.set_cons_zero, List.set_cons_succ])
            refine wpAnyH_take (i := 6) (v := ?_) (by rw [List.getElem?_toArray]; rfl) (by kernel_rfl) (by kernel_rfl) (by kernel_rfl) (by intro _ _ _ h; exact h) (Or.inl ⟨by rfl, ?_⟩) (by assumption) ?_
            rotate_left
            · (intro w hSw; (try dsimp only at hSw); go_simp; all_goals with_reducible rfl)
            (try simp only [Act.put, List.setIfInBounds_toArray, List.set_cons_zero, List.set_cons_succ])
            refine wpAnyH_take (i := 7) (v := ?_) (by rw [List.getElem?_toArray]; rfl) (by kernel_rfl) (by kernel_rfl) (by kernel_rfl) (by intro _ _ _ h; exact h) (Or.inl ⟨by rfl, ?_⟩) (by assumption) ?_
            rotate_left
            · (intro w hSw; (try dsimp only at hSw); go_simp; all_goals with_reducible rfl)
            (try simp only [Act.put, List.setIfInBounds_toArray, List.set_cons_zero, List.set_cons_succ])
            refine wpAnyH_take (i := 8) (v := ?_) (by rw [List.getElem?_toArray]; rfl) (by kernel_rfl) (by kernel_rfl) (by kernel_rfl) (by intro _ _ _ h; exact h) (Or.inl ⟨by rfl, ?_⟩) (by assumption) ?_
            rotate_left
            · (intro w hSw; (try dsimp only at hSw); go_simp; all_goals with_reducible rfl)
            (try simp only [Act.put, List.setIfInBounds_toArray, List.set_cons_zero, List.set_cons_succ])
            refine wpAnyH_ready (rs := [9]) (by kernel_rfl) (by simp) ?_
            refine (AllReadyH.cons (by rw [List.getElem?_toArray]; rfl) (fun K hK => ?_) AllReadyH.nil)
            go_simp
            (have N := Box4.new v 0 0 0 0 27); (have hj : w.heap.size < v.heap.size := a0); (have bj : b < v.heap.size := bwr); (have hjg : ∀ g, u6.ownBlock = some g → g ≠ v.heap.size := fun g hg => by have := (O.lt g hg).2; omega); (have hA := Below.alc v (.cells #[.int .i64 0, .int .i64 0, .int .i64 0, .int .i64 0] 27)); clear a0 a1 a2 a3 a4 a5 a6 a7 a8; (try clear n0 n1 n2 n3 n4 n5 n6 n7 n8); (replace P := P.below hA); (replace O := own_below O hA); (replace B := B.trans (hA.mono B.size)); (replace e0 := (hA.cell (p := ⟨b, off + k * 2, none⟩) bwr).trans e0); (replace e1 := (hA.cell (p := ⟨b, off + k * 2 + 1, none⟩) bwr).trans e1); (replace bwr := Nat.lt_of_lt_of_le bwr hA.size); clear hA; (generalize v.alloc (.cells #[.int .i64 0, .int .i64 0, .int .i64 0, .int .i64 0] 27) = v2 at *); obtain ⟨a0, a1, a2, a3, a4, a5, a6, a7, a8⟩ := id P; (try (obtain ⟨n0, n1, n2, n3, n4, n5, n6, n7, n8⟩ := id N))
            refine hK.out _ _ ?_ (fun hHeld => ?_)
            · simp (maxDischargeDepth := 6) [go_sem, *]
            clear hK K
            (try simp only [Act.put, List.setIfInBounds_toArray, List.set_cons_zero, List.set_cons_succ])
            refine wpAnyH_ready (rs := [10]) (by kernel_rfl) (by simp) ?_
            refine (AllReadyH.cons (by rw [List.getElem?_toArray]; rfl) (fun K hK => ?_) AllReadyH.nil)
            go_simp
            refine hK.out _ _ ?_ (fun hHeld => ?_)
            · simp (maxDischargeDepth := 6) [go_sem, *]
            clear hK K
            (try simp only [Act.put, List.setIfInBounds_toArray, List.set_cons_zero, List.set_cons_succ])
            refine wpAnyH_take (i := 11) (v := ?_) (by rw [List.getElem?_toArray]; rfl) (by kernel_rfl) (by kernel_rfl) (by kernel_rfl) (by intro _ _ _ h; exact h) (Or.inl ⟨by rfl, ?_⟩) (by assumption) ?_
            rotate_left
            · (intro w hSw; (try dsimp only at hSw); go_simp; all_goals with_reducible rfl)
            (try simp only [Act.put, List.setIfInBounds_toArray, List.set_cons_zero, List.set_cons_succ])
            refine wpAnyH_done (by kernel_rfl) ?_ _
            go_wp2_with fail
            go_meet
            case rel => exact ⟨_, rfl, rfl, N.set n d nx.1 nx.2, P.set4O (by omega) n d nx.1 nx.2, own_set4n O hjg n d nx.1 nx.2, Below.set4 B (by omega) n d nx.1 nx.2⟩
          · go_simp
            (have N := Box4.new v 0 0 0 0 27); (have hj : w.heap.size < v.heap.size := a0); (have bj : b < v.heap.size := bwr); (have hjg : ∀ g, u6.ownBlock = some g → g ≠ v.heap.size := fun g hg => by have := (O.lt g hg).2; omega); (have hA := Below.alc v (.cells #[.int .i64 0, .int .i64 0, .int .i64 0, .int .i64 0] 27)); clear a0 a1 a2 a3 a4 a5 a6 a7 a8; (try clear n0 n1 n2 n3 n4 n5 n6 n7 n8); (replace P := P.below hA); (replace O := own_below O hA); (replace B := B.trans (hA.mono B.size)); (replace e0 := (hA.cell (p := ⟨b, off + k * 2, none⟩) bwr).trans e0); (replace e1 := (hA.cell (p := ⟨b, off + k * 2 + 1, none⟩) bwr).trans e1); (replace bwr := Nat.lt_of_lt_of_le bwr hA.size); clear hA; (generalize v.alloc (.cells #[.int .i64 0, .int .i64 0, .int .i64 0, .int .i64 0] 27) = v2 at *); obtain ⟨a0, a1, a2, a3, a4, a5, a6, a7, a8⟩ := id P; (try (obtain ⟨n0, n1, n2, n3, n4, n5, n6, n7, n8⟩ := id N))
            refine hK.out _ _ ?_ (fun hHeld => ?_)
            · simp (maxDischargeDepth := 6) [go_sem, *]
            clear hK K
            (try simp only [Act.put, List.setIfInBounds_toArray, List.set_cons_zero, List.set_cons_succ])
            refine wpAnyH_ready (rs := [5]) (by kernel_rfl) (by simp) ?_
            refine (AllReadyH.cons (by rw [List.getElem?_toArray]; rfl) (fun K hK => ?_) AllReadyH.nil)
            go_simp
            refine (C1 _).mono ?_; rintro e v ⟨rfl, hb⟩; clear a0 a1 a2 a3 a4 a5 a6 a7 a8; (try clear n0 n1 n2 n3 n4 n5 n6 n7 n8); (replace P := P.below hb); (try (replace N := N.below hb)); (replace O := own_below O hb); (replace B := B.trans (hb.mono B.size)); (replace e0 := (hb.cell (p := ⟨b, off + k * 2, none⟩) bwr).trans e0); (replace e1 := (hb.cell (p := ⟨b, off + k * 2 + 1, none⟩) bwr).trans e1); (replace bwr := Nat.lt_of_lt_of_le bwr hb.size); clear hb; obtain ⟨a0, a1, a2, a3, a4, a5, a6, a7, a8⟩ := id P; (try (obtain ⟨n0, n1, n2, n3, n4, n5, n6, n7, n8⟩ := id N))
            (try go_wp2_with fail)
            refine hK.out _ _ ?_ (fun hHeld => ?_)
            · simp (maxDischargeDepth := 6) [go_sem, *]
            clear hK K
            (try simp only [Act.put, List.setIfInBounds_toArray, List.set_cons_zero, List.set_cons_succ])
            refine wpAnyH_take (i := 6) (v := ?_) (by rw [List.getElem?_toArray]; rfl) (by kernel_rfl) (by kernel_rfl) (by kernel_rfl) (by intro _ _ _ h; exact h) (Or.inl ⟨by rfl, ?_⟩) (by assumption) ?_
            rotate_left
            · (intro w hSw; (try dsimp only at hSw); go_simp; all_goals with_reducible rfl)
            (try simp only [Act.put, List.setIfInBounds_toArray, List.set_cons_zero, List.set_cons_succ])
            refine wpAnyH_take (i := 7) (v := ?_) (by rw [List.getElem?_toArray]; rfl) (by kernel_rfl) (by kernel_rfl) (by kernel_rfl) (by intro _ _ _ h; exact h) (Or.inl ⟨by rfl, ?_⟩) (by assumption) ?_
            rotate_left
            · (intro w hSw; (try dsimp only at hSw); go_simp; all_goals with_reducible rfl)
            (try simp only [Act.put, List.setIfInBounds_toArray, List.set_cons_zero, List.set_cons_succ])
            refine wpAnyH_take (i := 8) (v := ?_) (by rw [List.getElem?_toArray]; rfl) (by kernel_rfl) (by kernel_rfl) (by kernel_rfl) (by intro _ _ _ h; exact h) (Or.inl ⟨by rfl, ?_⟩) (by assumption) ?_
            rotate_left
            · (intro w hSw; (try dsimp only at hSw); go_simp; all_goals with_reducible rfl)
            (try simp only [Act.put, List.setIfInBounds_toArray, List.set_cons_zero, List.set_cons_succ])
            refine wpAnyH_ready (rs := [10]) (by kernel_rfl) (by simp) ?_
            refine (AllReadyH.cons (by rw [List.getElem?_toArray]; rfl) (fun K hK => ?_) AllReadyH.nil)
            go_simp
            refine hK.out _ _ ?_ (fun hHeld => ?_)
            · simp (maxDischargeDepth := 6) [go_sem, *]
            clear hK K
            (try simp only [Act.put, List.setIfInBounds_toArray, List.set_cons_zero, List.set_cons_succ])
            refine wpAnyH_take (i := 11) (v := ?_) (by rw [List.getElem?_toArray]; rfl) (by kernel_rfl) (by kernel_rfl) (by kernel_rfl) (by intro _ _ _ h; exact h) (Or.inl ⟨by rfl, ?_⟩) (by assumption) ?_
            rotate_left
            · (intro w hSw; (try dsimp only at hSw); go_simp; all_goals with_reducible rfl)
            (try simp only [Act.put, List.setIfInBounds_toArray, List.set_cons_zero, List.set_cons_succ])
            refine wpAnyH_done (by kernel_rfl) ?_ _
            go_wp2_with fail
            go_meet
            case rel => exact ⟨_, rfl, rfl, N.set n d nx.1 nx.2, P.set4O (by omega) n d nx.1 nx.2, own_set4n O hjg n d nx.1 nx.2, Below.set4 B (by omega) n d nx.1 nx.2⟩
        case rest =>
          obtain ⟨j, rfl, rfl, N, P', O', B'⟩ := hcut
          clear P O B a0 a1 a2 a3 a4 a5 a6 a7 a8 e0 e1 bwr C1
          have P7 := P'.set n d nx.1 nx.2
          have O7 := own_set4 O' (Nat.lt_succ_self _) n d nx.1 nx.2
          have B7 := Below.set4 B' (Nat.le_refl _) n d nx.1 nx.2
          have s7 : w.heap.size + 1 ≤ wc.heap.size := P'.1
          obtain ⟨a0, a1, a2, a3, a4, a5, a6, a7, a8⟩ := id P'
          obtain ⟨n0, n1, n2, n3, n4, n5, n6, n7, n8⟩ := id N
          go_wp2_with (at_builtin; refine wpList_append_own _ rfl _ _ 31 rfl (w.heap.size + 1) 42 i0 (.agg #[.int .i64 0, .int .i64 0]) 2 16 Try.underlying31 hi hz0 hz1 hz2 rfl (by decide) _ _ _ rfl (World.ownsRow.alloc O7 _) ⟨wc.heap.size, 0, none⟩ 1 1 [.int .i64 nx.1, .int .i64 nx.2] rfl rfl ?c1 ?c2 ?c3 ?c4 ?c5 ?_)
          case c1 => intro j u hj; (have h := pair_at (set4 wc w.heap.size n d nx.1 nx.2) nx.1 nx.2 42 j u hj); unfold set4 at h; (try simp only [World.size_setCell] at h); exact h
          case c2 => intro u hu; simp at hu; rcases hu with rfl | rfl <;> rfl
          case c3 => unfold maxLen; omega
          case c4 => omega
          case c5 => simp; omega
          · intro v' w9 hown' hgrow _
            have A9 := Below.alc (set4 wc w.heap.size n d nx.1 nx.2) (.cells #[.int .i64 nx.1, .int .i64 nx.2] 42)
            have hsz : w.heap.size + 1 ≤ ((set4 wc w.heap.size n d nx.1 nx.2).alloc (.cells #[.int .i64 nx.1, .int .i64 nx.2] 42)).heap.size := by simp [set4]; omega
            have G9 := grown_below (World.ownsRow.alloc O7 _) hgrow hsz
            have P9 := (P7.below A9).belowB G9 (Nat.lt_succ_self _)
            have B9 := (B7.trans (A9.mono B7.size)).trans (G9.mono (Nat.le_succ _))
            have R9 : w9.ownsRow (w.heap.size + 1) 42 2 v' (k + 1 + 1) (prs (mkL n d t c f (k + 1))) := by rw [LA, prs_add]; exact hown'
            clear hown' hgrow G9 A9 hsz O7 B7 P7
            go_wp2
            go_roundw
            case rel => exact ⟨k + 1, by omega, by go_num, HA2.out, R9, by rw [HX.out]; exact P9, B9⟩
            case measure => simp [intOf]; omega
    · have hkm : k = m := by omega
      have hli : ¬ (k : Int) < (m : Int) := by omega
      have HR : Hid (runN n d t c f m = m) := runN_all (by subst hkm; exact HA.out)
      have hown' : wr.ownsRow (w.heap.size + 1) 42 2 u6 (m + 1) (prs (mkL n d t c f m)) := by rw [hkm] at O; exact O
      clear O
      go_wp2_with fail
      exact bodyPost_ret (v := .tuple #[u6, .int .i64 (m : Int)]) (by simp (maxDischargeDepth := 6) [results, Try.results8, go_sem, *]) rfl ⟨u6, by rw [HR.out], by rw [HR.out]; exact own_base hown' (Nat.le_succ _), B⟩
end Go.Proofs.Ytlfbbdeoejafkaa
