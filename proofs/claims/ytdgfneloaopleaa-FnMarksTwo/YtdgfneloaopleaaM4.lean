/- The contract of spec.MarksAll. -/
import Derived.Test.YtdgfneloaopleaaM2
import Derived.Deep.RegionHeld3
import Derived.WalkKit
import Derived.WalkSpells
import Derived.WalkLawsBesides
import Derived.Deep.RegionHeld
namespace Go.Proofs.Ytdgfneloaopleaa
open Go.RowKit
set_option linter.unusedVariables false
set_option maxHeartbeats 4000000 in
theorem specMarksAll_some (n d : Int) (b off m c : Nat) (f : Nat → Int × Int) (w : World) (ho : okD n d = true) (h1 : 1 ≤ m) (h2 : m ≤ 201) (hf : Prs w b off m f) :
    Calls Try.prog 17 #[.agg #[.int .i64 n, .int .i64 d], .slice (some ⟨b, off, none⟩) m c] w fun e w' => e = .returned (.bool (mrB n d f m m)) ∧ Below w.heap.size w w' := by
  have B0 := Below.alc w (.cells #[.int .i64 n, .int .i64 d] 25)
  have P0 := Bx.new w n d 25
  have HF : Hid (Prs w b off m f) := hf
  have HF0 : Hid (Prs (w.alloc (.cells #[.int .i64 n, .int .i64 d] 25)) b off m f) := hf.below B0 hf.1
  clear hf
  cases hk : mkB n d f m
  · rw [mrB_k hk]
    go_enter Try.func17, Try.ntmps17
    go_wp2_with fail
    refine (l3Marks_v n d b off m c f false _ ho h1 h2 HF0.out hk).mono ?_
    rintro e w1 ⟨rfl, hb⟩
    have B1 := B0.trans (hb.mono B0.size)
    clear hb
    go_wp2_with fail
    go_ret
    exact ⟨rfl, B1⟩
  have HT : Hid (∀ i, i < m → okT (f i).1 = true ∧ okT (f i).2 = true) := (mkB_t hk).2.2.2
  have HK : Hid (mkB n d f m = true) := hk
  go_enter Try.func17, Try.ntmps17
  go_wp2_with fail
  refine (l3Marks_v n d b off m c f true _ ho h1 h2 HF0.out hk).mono ?_
  rintro e w1 ⟨rfl, hb⟩
  have B1 := B0.trans (hb.mono B0.size)
  have P1 := P0.below hb
  have HF1 : Hid (Prs w1 b off m f) := HF0.out.below hb HF0.out.1
  have bw1 : b < w1.heap.size := HF1.out.1
  have sw1 : w.heap.size < w1.heap.size := P1.1
  clear hb P0 HF0 hk ho B0
  go_wp2_with fail
  go_loopw [5] (fun i wr => ∃ j : Nat, j ≤ m ∧ i = .int .i64 j ∧ (∀ i, i < j → ∀ k, i < k → k < m → two n d f i k = true) ∧ Below w1.heap.size w1 wr) (fun i _ => m - (intOf i).toNat)
  case atStart => exact ⟨0, Nat.zero_le _, rfl, fun i hi => absurd hi (Nat.not_lt_zero _), Below.refl _ _⟩
  case round =>
    obtain ⟨j, hj, rfl, hall, hBj⟩ := hrel
    have HA : Hid (∀ i, i < j → ∀ k, i < k → k < m → two n d f i k = true) := hall
    clear hall
    by_cases hjm : j < m
    · have hlj : (j : Int) < (m : Int) := by omega
      go_wp2_with fail
      go_loopw [6] (fun i wr => ∃ k : Nat, j < k ∧ k ≤ m ∧ i = .int .i64 k ∧ (∀ q, j < q → q < k → two n d f j q = true) ∧ Below w1.heap.size w1 wr) (fun i _ => m - (intOf i).toNat)
      case atStart => exact ⟨j + 1, by omega, by omega, by go_num, fun q h1 h2 => absurd h1 (by omega), hBj⟩
      case round =>
        obtain ⟨k, hjk, hk, rfl, hall, hB⟩ := hrel
        have HI : Hid (∀ q, j < q → q < k → two n d f j q = true) := hall
        clear hall
        by_cases hlt : k < m
        · have c0 : wr.cell? ⟨b, off + j * 2, none⟩ = some (.int .i64 (f j).1) := ((HF1.out.below hB bw1).2 j hjm).1
          have c1 : wr.cell? ⟨b, off + j * 2 + 1, none⟩ = some (.int .i64 (f j).2) := ((HF1.out.below hB bw1).2 j hjm).2
          have e0 : wr.cell? ⟨b, off + k * 2, none⟩ = some (.int .i64 (f k).1) := ((HF1.out.below hB bw1).2 k hlt).1
          have e1 : wr.cell? ⟨b, off + k * 2 + 1, none⟩ = some (.int .i64 (f k).2) := ((HF1.out.below hB bw1).2 k hlt).2
          have q1 := HT.out j hjm
          have q2 := HT.out k hlt
          have bwr : b < wr.heap.size := Nat.lt_of_lt_of_le bw1 hB.size
          have hwr : w.heap.size < wr.heap.size := Nat.lt_of_lt_of_le sw1 hB.size
          obtain ⟨g0, g1, g2, g3, g4⟩ := P1.belowB hB sw1
          have hli : (k : Int) < (m : Int) := by omega
          have hwj : IntKind.i64.wrap (j : Int) = (j : Int) := Go.IntWalk.i64_in _ ⟨by omega, by omega⟩
          cases hv : mcB n d ((f k).1 - (f j).1) ((f k).2 - (f j).2)
          · have HN : Hid (mrB n d f m m = false) := mrB_p (prB_f hlt hjk (by omega) hv)
            clear HA HI HT HF HF1 HK
            generalize (f j).1 = x at *
            generalize (f j).2 = y at *
            generalize (f k).1 = x' at *
            generalize (f k).2 = y' at *
            go_wp2_with fail
            refine wp_region_held_drew (S := (fun w' => w'.cell? ⟨w.heap.size, 0, none⟩ = some (.int .i64 n) ∧ w'.cell? ⟨w.heap.size, 1, none⟩ = some (.int .i64 d) ∧ w'.cell? ⟨b, off + j * 2, none⟩ = some (.int .i64 x) ∧ w'.cell? ⟨b, off + j * 2 + 1, none⟩ = some (.int .i64 y) ∧ w'.cell? ⟨b, off + k * 2, none⟩ = some (.int .i64 x') ∧ w'.cell? ⟨b, off + k * 2 + 1, none⟩ = some (.int .i64 y'))) (by kernel_rfl) ?_ (fun hHeld => ?_)
            · first | (simp (maxDischargeDepth := 6) [go_sem, *]; done) | exact ⟨g1, g2, c0, c1, e0, e1⟩
            refine wpAnyH_take (i := 0) (v := ?_) (by rw [List.getElem?_toArray]; rfl) (by kernel_rfl) (by kernel_rfl) (by kernel_rfl) (by intro _ _ _ h; exact h) (Or.inl ⟨by rfl, ?_⟩) (by assumption) ?_
            rotate_left
            · (intro w hSw; (try dsimp only at hSw); go_simp; all_goals with_reducible rfl)
            (try simp only [Act.put, List.setIfInBounds_toArray, List.set_cons_zero, List.set_cons_succ])
            refine wpAnyH_take (i := 1) (v := ?_) (by rw [List.getElem?_toArray]; rfl) (by kernel_rfl) (by kernel_rfl) (by kernel_rfl) (by intro _ _ _ h; exact h) (Or.inl ⟨by rfl, ?_⟩) (by assumption) ?_
            rotate_left
            · (intro w hSw; (try dsimp only at hSw); go_simp; all_goals with_reducible rfl)
            (try simp only [Act.put, List.setIfInBounds_toArray, List.set_cons_zero, List.set_cons_succ])
            refine wpAnyH_take (i := 2) (v := ?_) (by rw [List.getElem?_toArray]; rfl) (by kernel_rfl) (by kernel_rfl) (by kernel_rfl) (by intro _ _ _ h; exact h) (Or.inl ⟨by rfl, ?_⟩) (by assumption) ?_
            rotate_left
            · (intro w hSw; (try dsimp only at hSw); go_simp; all_goals with_reducible rfl)
            (try simp only [Act.put, List.setIfInBounds_toArray, List.set_cons_zero, List.set_cons_succ])
            refine wpAnyH_take (i := 3) (v := ?_) (by rw [List.getElem?_toArray]; rfl) (by kernel_rfl) (by kernel_rfl) (by kernel_rfl) (by intro _ _ _ h; exact h) (Or.inl ⟨by rfl, ?_⟩) (by assumption) ?_
            rotate_left
            · (intro w hSw; (try dsimp only at hSw); go_simp; all_goals with_reducible rfl)
            (try simp only [Act.put, List.setIfInBounds_toArray, List.set_cons_zero, List.set_cons_succ])
            refine wpAnyH_take (i := 4) (v := ?_) (by rw [List.getElem?_toArray]; rfl) (by kernel_rfl) (by kernel_rfl) (by kernel_rfl) (by intro _ _ _ h; exact h) (Or.inl ⟨by rfl, ?_⟩) (by assumption) ?_
            rotate_left
            · (intro w hSw; (try dsimp only at hSw); go_simp; all_goals with_reducible rfl)
            (try simp only [Act.put, List.setIfInBounds_toArray, List.set_cons_zero, List.set_cons_succ])
            refine wpAnyH_take (i := 5) (v := ?_) (by rw [List.getElem?_toArray]; rfl) (by kernel_rfl) (by kernel_rfl) (by kernel_rfl) (by intro _ _ _ h; exact h) (Or.inl ⟨by rfl, ?_⟩) (by assumption) ?_
            rotate_left
            · (intro w hSw; (try dsimp only at hSw); go_simp; all_goals with_reducible rfl)
            (try simp only [Act.put, List.setIfInBounds_toArray, List.set_cons_zero, List.set_cons_succ])
            refine wpAnyH_take (i := 6) (v := ?_) (by rw [List.getElem?_toArray]; rfl) (by kernel_rfl) (by kernel_rfl) (by kernel_rfl) (by intro _ _ _ h; exact h) (Or.inl ⟨by rfl, ?_⟩) (by assumption) ?_
            rotate_left
            · (intro w hSw; (try dsimp only at hSw); go_simp; all_goals with_reducible rfl)
            (try simp only [Act.put, List.setIfInBounds_toArray, List.set_cons_zero, List.set_cons_succ])
            refine wpAnyH_take (i := 7) (v := ?_) (by rw [List.getElem?_toArray]; rfl) (by kernel_rfl) (by kernel_rfl) (by kernel_rfl) (by intro _ _ _ h; exact h) (Or.inl ⟨by rfl, ?_⟩) (by assumption) ?_
            rotate_left
            · (intro w hSw; (try dsimp only at hSw); go_simp; all_goals with_reducible rfl)
            (try simp only [Act.put, List.setIfInBounds_toArray, List.set_cons_zero, List.set_cons_succ])
            refine wpAnyH_take (i := 8) (v := ?_) (by rw [List.getElem?_toArray]; rfl) (by kernel_rfl) (by kernel_rfl) (by kernel_rfl) (by intro _ _ _ h; exact h) (Or.inl ⟨by rfl, ?_⟩) (by assumption) ?_
            rotate_left
            · (intro w hSw; (try dsimp only at hSw); go_simp; all_goals with_reducible rfl)
            (try simp only [Act.put, List.setIfInBounds_toArray, List.set_cons_zero, List.set_cons_succ])
            refine wpAnyH_ready (rs := [9]) (by kernel_rfl) (by simp) ?_
            refine AllReadyH.cons (by rw [List.getElem?_toArray]; rfl) (fun K hK => ?_) AllReadyH.nil
            go_simp
            refine (l3Two_v n d x y x' y' false _ q1.1 q1.2 q2.1 q2.2 hv).mono ?_; rintro e w2 ⟨rfl, hb⟩; (have hb := Below.undrewO hb); (have B2 : Below w1.heap.size w1 w2 := hB.trans (hb.mono hB.size)); (have g1 := (hb.cell (p := ⟨w.heap.size, 0, none⟩) (by first | exact hwr | (simp; exact hwr))).trans g1); (have g2 := (hb.cell (p := ⟨w.heap.size, 1, none⟩) (by first | exact hwr | (simp; exact hwr))).trans g2); (have c0 := (hb.cell (p := ⟨b, off + j * 2, none⟩) (by first | exact bwr | (simp; exact bwr))).trans c0); (have c1 := (hb.cell (p := ⟨b, off + j * 2 + 1, none⟩) (by first | exact bwr | (simp; exact bwr))).trans c1); (have e0 := (hb.cell (p := ⟨b, off + k * 2, none⟩) (by first | exact bwr | (simp; exact bwr))).trans e0); (have e1 := (hb.cell (p := ⟨b, off + k * 2 + 1, none⟩) (by first | exact bwr | (simp; exact bwr))).trans e1)
            (try go_wp2_with fail)
            refine hK.out _ _ ?_ (fun hHeld => ?_)
            · first | (simp (maxDischargeDepth := 6) [go_sem, *]; done) | exact ⟨g1, g2, c0, c1, e0, e1⟩
            clear hK K
            (try simp only [Act.put, List.setIfInBounds_toArray, List.set_cons_zero, List.set_cons_succ])
            refine wpAnyH_take (i := 10) (v := ?_) (by rw [List.getElem?_toArray]; rfl) (by kernel_rfl) (by kernel_rfl) (by kernel_rfl) (by intro _ _ _ h; exact h) (Or.inl ⟨by rfl, ?_⟩) (by assumption) ?_
            rotate_left
            · (intro w hSw; (try dsimp only at hSw); go_simp; all_goals with_reducible rfl)
            (try simp only [Act.put, List.setIfInBounds_toArray, List.set_cons_zero, List.set_cons_succ])
            refine wpAnyH_done (by kernel_rfl) ?_ _
            go_wp2_with fail
            go_ret
            exact ⟨ret_bool HN.out.symm, B1.trans (Below.mono (by first | exact B2 | exact Below.drew B2) B1.size)⟩
          · have HI2 : Hid (∀ q, j < q → q < k + 1 → two n d f j q = true) := fun q h1 h2 => by
              by_cases e : q = k
              · subst e; exact hv
              · exact HI.out q h1 (by omega)
            generalize hQ : (∀ q, j < q → q < k + 1 → two n d f j q = true) = Q at HI2
            clear HA HI HT HF HF1 HK
            generalize (f j).1 = x at *
            generalize (f j).2 = y at *
            generalize (f k).1 = x' at *
            generalize (f k).2 = y' at *
            go_wp2_with fail
            refine wp_region_held_drew (S := (fun w' => w'.cell? ⟨w.heap.size, 0, none⟩ = some (.int .i64 n) ∧ w'.cell? ⟨w.heap.size, 1, none⟩ = some (.int .i64 d) ∧ w'.cell? ⟨b, off + j * 2, none⟩ = some (.int .i64 x) ∧ w'.cell? ⟨b, off + j * 2 + 1, none⟩ = some (.int .i64 y) ∧ w'.cell? ⟨b, off + k * 2, none⟩ = some (.int .i64 x') ∧ w'.cell? ⟨b, off + k * 2 + 1, none⟩ = some (.int .i64 y'))) (by kernel_rfl) ?_ (fun hHeld => ?_)
            · first | (simp (maxDischargeDepth := 6) [go_sem, *]; done) | exact ⟨g1, g2, c0, c1, e0, e1⟩
            refine wpAnyH_take (i := 0) (v := ?_) (by rw [List.getElem?_toArray]; rfl) (by kernel_rfl) (by kernel_rfl) (by kernel_rfl) (by intro _ _ _ h; exact h) (Or.inl ⟨by rfl, ?_⟩) (by assumption) ?_
            rotate_left
            · (intro w hSw; (try dsimp only at hSw); go_simp; all_goals with_reducible rfl)
            (try simp only [Act.put, List.setIfInBounds_toArray, List.set_cons_zero, List.set_cons_succ])
            refine wpAnyH_take (i := 1) (v := ?_) (by rw [List.getElem?_toArray]; rfl) (by kernel_rfl) (by kernel_rfl) (by kernel_rfl) (by intro _ _ _ h; exact h) (Or.inl ⟨by rfl, ?_⟩) (by assumption) ?_
            rotate_left
            · (intro w hSw; (try dsimp only at hSw); go_simp; all_goals with_reducible rfl)
            (try simp only [Act.put, List.setIfInBounds_toArray, List.set_cons_zero, List.set_cons_succ])
            refine wpAnyH_take (i := 2) (v := ?_) (by rw [List.getElem?_toArray]; rfl) (by kernel_rfl) (by kernel_rfl) (by kernel_rfl) (by intro _ _ _ h; exact h) (Or.inl ⟨by rfl, ?_⟩) (by assumption) ?_
            rotate_left
            · (intro w hSw; (try dsimp only at hSw); go_simp; all_goals with_reducible rfl)
            (try simp only [Act.put, List.setIfInBounds_toArray, List.set_cons_zero, List.set_cons_succ])
            refine wpAnyH_take (i := 3) (v := ?_) (by rw [List.getElem?_toArray]; rfl) (by kernel_rfl) (by kernel_rfl) (by kernel_rfl) (by intro _ _ _ h; exact h) (Or.inl ⟨by rfl, ?_⟩) (by assumption) ?_
            rotate_left
            · (intro w hSw; (try dsimp only at hSw); go_simp; all_goals with_reducible rfl)
            (try simp only [Act.put, List.setIfInBounds_toArray, List.set_cons_zero, List.set_cons_succ])
            refine wpAnyH_take (i := 4) (v := ?_) (by rw [List.getElem?_toArray]; rfl) (by kernel_rfl) (by kernel_rfl) (by kernel_rfl) (by intro _ _ _ h; exact h) (Or.inl ⟨by rfl, ?_⟩) (by assumption) ?_
            rotate_left
            · (intro w hSw; (try dsimp only at hSw); go_simp; all_goals with_reducible rfl)
            (try simp only [Act.put, List.setIfInBounds_toArray, List.set_cons_zero, List.set_cons_succ])
            refine wpAnyH_take (i := 5) (v := ?_) (by rw [List.getElem?_toArray]; rfl) (by kernel_rfl) (by kernel_rfl) (by kernel_rfl) (by intro _ _ _ h; exact h) (Or.inl ⟨by rfl, ?_⟩) (by assumption) ?_
            rotate_left
            · (intro w hSw; (try dsimp only at hSw); go_simp; all_goals with_reducible rfl)
            (try simp only [Act.put, List.setIfInBounds_toArray, List.set_cons_zero, List.set_cons_succ])
            refine wpAnyH_take (i := 6) (v := ?_) (by rw [List.getElem?_toArray]; rfl) (by kernel_rfl) (by kernel_rfl) (by kernel_rfl) (by intro _ _ _ h; exact h) (Or.inl ⟨by rfl, ?_⟩) (by assumption) ?_
            rotate_left
            · (intro w hSw; (try dsimp only at hSw); go_simp; all_goals with_reducible rfl)
            (try simp only [Act.put, List.setIfInBounds_toArray, List.set_cons_zero, List.set_cons_succ])
            refine wpAnyH_take (i := 7) (v := ?_) (by rw [List.getElem?_toArray]; rfl) (by kernel_rfl) (by kernel_rfl) (by kernel_rfl) (by intro _ _ _ h; exact h) (Or.inl ⟨by rfl, ?_⟩) (by assumption) ?_
            rotate_left
            · (intro w hSw; (try dsimp only at hSw); go_simp; all_goals with_reducible rfl)
            (try simp only [Act.put, List.setIfInBounds_toArray, List.set_cons_zero, List.set_cons_succ])
            refine wpAnyH_take (i := 8) (v := ?_) (by rw [List.getElem?_toArray]; rfl) (by kernel_rfl) (by kernel_rfl) (by kernel_rfl) (by intro _ _ _ h; exact h) (Or.inl ⟨by rfl, ?_⟩) (by assumption) ?_
            rotate_left
            · (intro w hSw; (try dsimp only at hSw); go_simp; all_goals with_reducible rfl)
            (try simp only [Act.put, List.setIfInBounds_toArray, List.set_cons_zero, List.set_cons_succ])
            refine wpAnyH_ready (rs := [9]) (by kernel_rfl) (by simp) ?_
            refine AllReadyH.cons (by rw [List.getElem?_toArray]; rfl) (fun K hK => ?_) AllReadyH.nil
            go_simp
            refine (l3Two_v n d x y x' y' true _ q1.1 q1.2 q2.1 q2.2 hv).mono ?_; rintro e w2 ⟨rfl, hb⟩; (have hb := Below.undrewO hb); (have B2 : Below w1.heap.size w1 w2 := hB.trans (hb.mono hB.size)); (have g1 := (hb.cell (p := ⟨w.heap.size, 0, none⟩) (by first | exact hwr | (simp; exact hwr))).trans g1); (have g2 := (hb.cell (p := ⟨w.heap.size, 1, none⟩) (by first | exact hwr | (simp; exact hwr))).trans g2); (have c0 := (hb.cell (p := ⟨b, off + j * 2, none⟩) (by first | exact bwr | (simp; exact bwr))).trans c0); (have c1 := (hb.cell (p := ⟨b, off + j * 2 + 1, none⟩) (by first | exact bwr | (simp; exact bwr))).trans c1); (have e0 := (hb.cell (p := ⟨b, off + k * 2, none⟩) (by first | exact bwr | (simp; exact bwr))).trans e0); (have e1 := (hb.cell (p := ⟨b, off + k * 2 + 1, none⟩) (by first | exact bwr | (simp; exact bwr))).trans e1)
            (try go_wp2_with fail)
            refine hK.out _ _ ?_ (fun hHeld => ?_)
            · first | (simp (maxDischargeDepth := 6) [go_sem, *]; done) | exact ⟨g1, g2, c0, c1, e0, e1⟩
            clear hK K
            (try simp only [Act.put, List.setIfInBounds_toArray, List.set_cons_zero, List.set_cons_succ])
            refine wpAnyH_take (i := 10) (v := ?_) (by rw [List.getElem?_toArray]; rfl) (by kernel_rfl) (by kernel_rfl) (by kernel_rfl) (by intro _ _ _ h; exact h) (Or.inl ⟨by rfl, ?_⟩) (by assumption) ?_
            rotate_left
            · (intro w hSw; (try dsimp only at hSw); go_simp; all_goals with_reducible rfl)
            (try simp only [Act.put, List.setIfInBounds_toArray, List.set_cons_zero, List.set_cons_succ])
            refine wpAnyH_done (by kernel_rfl) ?_ _
            go_wp2_with fail
            go_roundw
            case rel => exact ⟨k + 1, by omega, by omega, by go_num, by rw [hQ]; exact HI2.out, by first | exact B2 | exact Below.drew B2⟩
            case measure => simp [intOf]; omega
        · have hli : ¬ (k : Int) < (m : Int) := by omega
          have HA2 : Hid (∀ i, i < j + 1 → ∀ k, i < k → k < m → two n d f i k = true) := fun i hi q h1 h2 => by
            by_cases e : i = j
            · subst e; exact HI.out q h1 (by omega)
            · exact HA.out i (by omega) q h1 h2
          go_wp2_with fail
          go_roundw
          case rel => exact ⟨j + 1, by omega, by go_num, HA2.out, hB⟩
          case measure => simp [intOf]; omega
    · have hli : ¬ (j : Int) < (m : Int) := by omega
      have HN : Hid (mrB n d f m m = true) := mrB_of HK.out (prB_of fun i hi l hl _ => HA.out l (by omega) i hl hi)
      go_wp2_with fail
      go_ret
      exact ⟨ret_bool HN.out.symm, B1.trans (hBj.mono B1.size)⟩
end Go.Proofs.Ytdgfneloaopleaa
