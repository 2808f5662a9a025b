/- Contracts of Missing. -/
import Derived.Test.YtmnheknjllobdaaX910
import Derived.Test.YtmnheknjllobdaaW6
import Derived.Deep.RegionHeld3
import Derived.Deep.DeepCutAuto
import Derived.WalkKit
import Derived.WalkSpells
import Derived.WalkLawsBesides
import Derived.Deep.RegionHeld
namespace Go.Proofs.Ytmnheknjllobdaa
open Go.RowKit
set_option linter.unusedVariables false
def mi (f : Nat → Int × Int) (lo hi : Int) (k : Nat) : Bool := decide (0 < apartI (f k).1 (f k).2 lo hi)
def msN (f : Nat → Int × Int) (lo hi : Int) : Nat → List Int
  | 0 => []
  | k + 1 => if mi f lo hi k then msN f lo hi k ++ [(k : Int)] else msN f lo hi k
theorem ms_len (f : Nat → Int × Int) (lo hi : Int) : ∀ k, (msN f lo hi k).length ≤ k
  | 0 => Nat.le_refl _
  | k + 1 => by have := ms_len f lo hi k; simp only [msN]; split <;> simp <;> omega
theorem ms_yes {f : Nat → Int × Int} {lo hi : Int} {k : Nat} (h : mi f lo hi k = true) : msN f lo hi (k + 1) = msN f lo hi k ++ [(k : Int)] := by simp [msN, h]
theorem ms_no {f : Nat → Int × Int} {lo hi : Int} {k : Nat} (h : mi f lo hi k = false) : msN f lo hi (k + 1) = msN f lo hi k := by simp [msN, h]
theorem mi_bad {f : Nat → Int × Int} {lo hi : Int} (h : okI lo hi = false) (k : Nat) : mi f lo hi k = false := by
  simp only [mi, decide_eq_false_iff_not]
  rw [apartI_f (by simp [okII, h])]; omega
theorem ms_bad {f : Nat → Int × Int} {lo hi : Int} (h : okI lo hi = false) : ∀ k, msN f lo hi k = []
  | 0 => rfl
  | k + 1 => by rw [ms_no (mi_bad h k), ms_bad h k]
theorem mi_meet {f : Nat → Int × Int} {lo hi : Int} {k : Nat} (h1 : okI (f k).1 (f k).2 = true) (h2 : okI lo hi = true) : meetB (f k).1 (f k).2 lo hi = !(mi f lo hi k) := by
  have hb : okII (f k).1 (f k).2 lo hi = true := by simp [okII, h1, h2]
  have ⟨a1, a2, a3⟩ := okI_t h1
  have ⟨b1, b2, b3⟩ := okI_t h2
  simp only [mi, meetB, hb, Bool.true_and]
  rw [apartI_t hb]
  have q1 : -1000000000000 ≤ imx (f k).1 lo ∧ imn (f k).2 hi ≤ 1000000000000 := by unfold imx imn; split <;> split <;> omega
  unfold okI
  by_cases h : imx (f k).1 lo ≤ imn (f k).2 hi
  · have e : ¬ 0 < imx 0 (imx (f k).1 lo - imn (f k).2 hi) := by unfold imx at h ⊢; split <;> split <;> omega
    simp [h, q1, e]
  · have e : 0 < imx 0 (imx (f k).1 lo - imn (f k).2 hi) := by
      generalize imx (f k).1 lo = u at *
      generalize imn (f k).2 hi = v at *
      unfold imx; split <;> omega
    simp [h, e]
def msL (f : Nat → Int × Int) (n : Nat) (lo hi : Int) : List Int := if srcB f n = true then msN f lo hi n else []
theorem msL_t {f : Nat → Int × Int} {n : Nat} {lo hi : Int} (h : srcB f n = true) : msL f n lo hi = msN f lo hi n := if_pos h
theorem msL_f {f : Nat → Int × Int} {n : Nat} {lo hi : Int} (h : srcB f n = false) : msL f n lo hi = [] := if_neg (by simp [h])
theorem itL_add (L : List Int) (x : Int) : itL (L ++ [x]) = itL L ++ [.int .i64 x] := by simp [itL]
theorem made_none1 (w : World) : (w.alloc (.cells #[] 3)).ownsRow w.heap.size 3 1 (.slice (some ⟨w.heap.size, 0, none⟩) 0 0) 0 (itL []) := World.ownsRow_made w #[] 0 (Nat.le_refl _) (by simp [maxLen]) (by simp)
set_option maxRecDepth 100000 in
set_option maxHeartbeats 4000000 in
theorem specMissing (a : Option Addr) (n c : Nat) (f : Nat → Int × Int) (lo hi : Int) (w : World) (hm : n ≤ maxLen) (hs : Src w a n f) :
    Calls Try.prog 32 #[.slice a n c, .agg #[.int .i64 lo, .int .i64 hi]] w fun e w' => ∃ v, e = .returned v ∧ w'.ownsRow w.heap.size 3 1 v (msL f n lo hi).length (itL (msL f n lo hi)) ∧ Below w.heap.size w w' := by
  obtain ⟨i0, hi9, hz0, hz1, hz2⟩ := info_parts infoInt
  have X0 := (Vb.new w lo hi 33).below (Below.al9 (w.alloc (.cells #[.int .i64 lo, .int .i64 hi] 33)) (.cells #[] 3))
  have B0 := (Below.al9 w (.cells #[.int .i64 lo, .int .i64 hi] 33)).trans ((Below.al9 (w.alloc (.cells #[.int .i64 lo, .int .i64 hi] 33)) (.cells #[] 3)).mono (by simp))
  have O0 := made_none1 (w.alloc (.cells #[.int .i64 lo, .int .i64 hi] 33))
  simp only [World.size_alloc] at O0
  have HS : Hid (Src w a n f) := hs
  have CS := fun (v : World) (hb : Below w.heap.size w v) => specSources a n c f v hm (HS.out.below hb)
  unfold maxLen at hm
  clear hs
  by_cases hbad : srcB f n = false ∨ n = 0
  · have e0 : msL f n lo hi = [] := by
      rcases hbad with h | rfl
      · exact msL_f h
      · unfold msL; split <;> rfl
    rw [e0]
    go_enter Try.func32, Try.ntmps32
    go_wp2_with fail
    go_loopw [5, 6] (fun v i wr => v = .slice (some ⟨w.heap.size + 1, 0, none⟩) 0 0 ∧ i = .int .i64 0 ∧ wr.ownsRow (w.heap.size + 1) 3 1 (.slice (some ⟨w.heap.size + 1, 0, none⟩) 0 0) 0 (itL []) ∧ Below w.heap.size w wr) (fun _ i _ => 0)
    case atStart => exact ⟨rfl, rfl, O0, B0⟩
    case round =>
      obtain ⟨rfl, rfl, O, B⟩ := hrel
      by_cases h0 : n = 0
      · subst h0
        go_wp2_with fail
        go_ret
        exact ⟨_, rfl, own_base O (Nat.le_succ _), B⟩
      · have hsb : srcB f n = false := hbad.resolve_right h0
        have hpos : (0 : Int) < (n : Int) := by omega
        go_wp2_with fail
        refine (CS _ B).mono ?_
        rintro e w1 ⟨rfl, hb⟩
        rw [hsb]
        go_wp2_with fail
        go_ret
        exact ⟨_, rfl, own_base (own_below O hb) (Nat.le_succ _), B.trans (hb.mono B.size)⟩
  · have hsb : srcB f n = true := by cases h : srcB f n; exact absurd (.inl h) hbad; rfl
    have ⟨hn, ho⟩ := srcB_le hsb
    rw [msL_t hsb]
    rw [hsb] at CS
    clear hbad
    go_enter Try.func32, Try.ntmps32
    go_wp2_with fail
    go_loopw [5, 6] (fun v i wr => ∃ k : Nat, k ≤ n ∧ i = .int .i64 k ∧ wr.ownsRow (w.heap.size + 1) 3 1 v (msN f lo hi k).length (itL (msN f lo hi k)) ∧ Vb wr w.heap.size lo hi ∧ Below w.heap.size w wr) (fun _ i _ => n - (intOf i).toNat)
    case atStart => exact ⟨0, Nat.zero_le _, rfl, O0, X0, B0⟩
    case round =>
      obtain ⟨k, hk, rfl, O, X, B⟩ := hrel
      clear O0 X0 B0
      by_cases hlt : k < n
      · have hli : (k : Int) < (n : Int) := by omega
        go_wp2_with fail
        refine (CS _ B).mono ?_
        rintro e v ⟨rfl, hb⟩
        replace O := own_below O hb
        replace X := X.below hb
        replace B := B.trans (hb.mono B.size)
        clear hb
        rcases HS.out.below B with h0 | ⟨b, off, rfl, hp⟩
        · omega
        have hml := ms_len f lo hi k
        have hs9 : w.heap.size < v.heap.size := X.1
        have CA := fun (v : World) => specApart_any (f k).1 (f k).2 lo hi v
        have HP : Hid (Prs v b off n f) := hp
        have c0 := (hp.2 k hlt).1
        have c1 := (hp.2 k hlt).2
        obtain ⟨x0, x1, x2, x3, x4⟩ := id X
        clear hp
        have HFL : Hid ((f k).1 = (f k).1) := rfl
        have HFH : Hid ((f k).2 = (f k).2) := rfl
        generalize hfl : (f k).1 = fl at CA c0 HFL
        generalize hfh : (f k).2 = fh at CA c1 HFH
        replace HFL : Hid ((f k).1 = fl) := hfl
        replace HFH : Hid ((f k).2 = fh) := hfh
        cases hmi : mi f lo hi k
        · have E : Hid (msN f lo hi (k + 1) = msN f lo hi k) := ms_no hmi
          have hmi' : decide (0 < apartI fl fh lo hi) = false := by rw [← hfl, ← hfh]; exact hmi
          clear hmi hfl hfh
          have hmi := hmi'
          clear hmi'
          go_wp2_with fail
          replace X := X.drew
          replace B := B.drew
          (have O : v.drew.ownsRow (w.heap.size + 1) 3 1 u5 (msN f lo hi k).length (itL (msN f lo hi k)) := O)
          (have HP : Hid (Prs v.drew b off n f) := HP.out)
          refine wp_region_held_drew (S := (fun w' => w'.cell? ⟨w.heap.size, 0, none⟩ = some (.int .i64 lo) ∧ w'.cell? ⟨w.heap.size, 1, none⟩ = some (.int .i64 hi) ∧ w'.cell? ⟨b, off + k * 2, none⟩ = some (.int .i64 fl) ∧ w'.cell? ⟨b, off + k * 2 + 1, none⟩ = some (.int .i64 fh))) (by kernel_rfl) ?_ (fun hHeld => ?_)
          · first | exact ⟨x1, x2, c0, c1⟩ | (simp (maxDischargeDepth := 6) [go_sem, *]; done)
          generalize v.drew = v at *
          refine wpAnyH_take (i := 0) (v := ?_) (by rw [List.getElem?_toArray]; rfl) (by kernel_rfl) (by kernel_rfl) (by kernel_rfl) (by intro _ _ _ h; exact h) (Or.inl ⟨by rfl, ?_⟩) (by assumption) ?_
          rotate_left
          · (intro w hSw; (try dsimp only at hSw); go_simp; all_goals with_reducible rfl)
          (try simp only [Act.put, List.setIfInBounds_toArray, List.set_cons_zero, List.set_cons_succ])
          refine wpAnyH_take (i := 1) (v := ?_) (by rw [List.getElem?_toArray]; rfl) (by kernel_rfl) (by kernel_rfl) (by kernel_rfl) (by intro _ _ _ h; exact h) (Or.inl ⟨by rfl, ?_⟩) (by assumption) ?_
          rotate_left
          · (intro w hSw; (try dsimp only at hSw); go_simp; all_goals with_reducible rfl)
          (try simp only [Act.put, List.setIfInBounds_toArray, List.set_cons_zero, List.set_cons_succ])
          refine wpAnyH_take (i := 2) (v := ?_) (by rw [List.getElem?_toArray]; rfl) (by kernel_rfl) (by kernel_rfl) (by kernel_rfl) (by intro _ _ _ h; exact h) (Or.inl ⟨by rfl, ?_⟩) (by assumption) ?_
          rotate_left
          · (intro w hSw; (try dsimp only at hSw); go_simp; all_goals with_reducible rfl)
          (try simp only [Act.put, List.setIfInBounds_toArray, List.set_cons_zero, List.set_cons_succ])
          refine wpAnyH_take (i := 3) (v := ?_) (by rw [List.getElem?_toArray]; rfl) (by kernel_rfl) (by kernel_rfl) (by kernel_rfl) (by intro _ _ _ h; exact h) (Or.inl ⟨by rfl, ?_⟩) (by assumption) ?_
          rotate_left
          · (intro w hSw; (try dsimp only at hSw); go_simp; all_goals with_reducible rfl)
          (try simp only [Act.put, List.setIfInBounds_toArray, List.set_cons_zero, List.set_cons_succ])
          refine wpAnyH_take (i := 4) (v := ?_) (by rw [List.getElem?_toArray]; rfl) (by kernel_rfl) (by kernel_rfl) (by kernel_rfl) (by intro _ _ _ h; exact h) (Or.inl ⟨by rfl, ?_⟩) (by assumption) ?_
          rotate_left
          · (intro w hSw; (try dsimp only at hSw); go_simp; all_goals with_reducible rfl)
          (try simp only [Act.put, List.setIfInBounds_toArray, List.set_cons_zero, List.set_cons_succ])
          refine wpAnyH_ready (rs := [5]) (by kernel_rfl) (by simp) ?_
          refine AllReadyH.cons (by rw [List.getElem?_toArray]; rfl) (fun K hK => ?_) AllReadyH.nil
          go_simp
          refine (CA _).mono ?_; rintro e v ⟨rfl, hb⟩; clear x0 x1 x2 x3 x4 c0 c1; (replace X := X.below hb); (replace O := own_below O hb); (have HS2 := (HP.out.below hb HP.out.1)); (replace B := B.trans (hb.mono B.size)); clear hb; obtain ⟨x0, x1, x2, x3, x4⟩ := id X; (have c0 := (HS2.2 k hlt).1); (have c1 := (HS2.2 k hlt).2); (rw [HFL.out] at c0); (rw [HFH.out] at c1)
          (try go_wp2_with fail)
          refine hK.out _ _ ?_ (fun hHeld => ?_)
          · first | exact ⟨x1, x2, c0, c1⟩ | (simp (maxDischargeDepth := 6) [go_sem, *]; done)
          clear hK K
          (try simp only [Act.put, List.setIfInBounds_toArray, List.set_cons_zero, List.set_cons_succ])
          refine wpAnyH_take (i := 6) (v := ?_) (by rw [List.getElem?_toArray]; rfl) (by kernel_rfl) (by kernel_rfl) (by kernel_rfl) (by intro _ _ _ h; exact h) (Or.inl ⟨by rfl, ?_⟩) (by assumption) ?_
          rotate_left
          · (intro w hSw; (try dsimp only at hSw); go_simp; all_goals with_reducible rfl)
          (try simp only [Act.put, List.setIfInBounds_toArray, List.set_cons_zero, List.set_cons_succ])
          (try simp only [hmi])
          refine wpAnyH_done (by kernel_rfl) ?_ _
          go_wp2_with fail
          go_roundw
          case rel => exact ⟨k + 1, by omega, by go_num, by rw [E.out]; exact O, X, B⟩
          case measure => simp [intOf]; omega
        · have E : Hid (msN f lo hi (k + 1) = msN f lo hi k ++ [(k : Int)]) := ms_yes hmi
          have hmi' : decide (0 < apartI fl fh lo hi) = true := by rw [← hfl, ← hfh]; exact hmi
          clear hmi hfl hfh
          have hmi := hmi'
          clear hmi'
          go_wp2_with fail
          replace X := X.drew
          replace B := B.drew
          (have O : v.drew.ownsRow (w.heap.size + 1) 3 1 u5 (msN f lo hi k).length (itL (msN f lo hi k)) := O)
          (have HP : Hid (Prs v.drew b off n f) := HP.out)
          refine wp_region_held_drew (S := (fun w' => w'.cell? ⟨w.heap.size, 0, none⟩ = some (.int .i64 lo) ∧ w'.cell? ⟨w.heap.size, 1, none⟩ = some (.int .i64 hi) ∧ w'.cell? ⟨b, off + k * 2, none⟩ = some (.int .i64 fl) ∧ w'.cell? ⟨b, off + k * 2 + 1, none⟩ = some (.int .i64 fh))) (by kernel_rfl) ?_ (fun hHeld => ?_)
          · first | exact ⟨x1, x2, c0, c1⟩ | (simp (maxDischargeDepth := 6) [go_sem, *]; done)
          generalize v.drew = v at *
          refine wpAnyH_take (i := 0) (v := ?_) (by rw [List.getElem?_toArray]; rfl) (by kernel_rfl) (by kernel_rfl) (by kernel_rfl) (by intro _ _ _ h; exact h) (Or.inl ⟨by rfl, ?_⟩) (by assumption) ?_
          rotate_left
          · (intro w hSw; (try dsimp only at hSw); go_simp; all_goals with_reducible rfl)
          (try simp only [Act.put, List.setIfInBounds_toArray, List.set_cons_zero, List.set_cons_succ])
          refine wpAnyH_take (i := 1) (v := ?_) (by rw [List.getElem?_toArray]; rfl) (by kernel_rfl) (by kernel_rfl) (by kernel_rfl) (by intro _ _ _ h; exact h) (Or.inl ⟨by rfl, ?_⟩) (by assumption) ?_
          rotate_left
          · (intro w hSw; (try dsimp only at hSw); go_simp; all_goals with_reducible rfl)
          (try simp only [Act.put, List.setIfInBounds_toArray, List.set_cons_zero, List.set_cons_succ])
          refine wpAnyH_take (i := 2) (v := ?_) (by rw [List.getElem?_toArray]; rfl) (by kernel_rfl) (by kernel_rfl) (by kernel_rfl) (by intro _ _ _ h; exact h) (Or.inl ⟨by rfl, ?_⟩) (by assumption) ?_
          rotate_left
          · (intro w hSw; (try dsimp only at hSw); go_simp; all_goals with_reducible rfl)
          (try simp only [Act.put, List.setIfInBounds_toArray, List.set_cons_zero, List.set_cons_succ])
          refine wpAnyH_take (i := 3) (v := ?_) (by rw [List.getElem?_toArray]; rfl) (by kernel_rfl) (by kernel_rfl) (by kernel_rfl) (by intro _ _ _ h; exact h) (Or.inl ⟨by rfl, ?_⟩) (by assumption) ?_
          rotate_left
          · (intro w hSw; (try dsimp only at hSw); go_simp; all_goals with_reducible rfl)
          (try simp only [Act.put, List.setIfInBounds_toArray, List.set_cons_zero, List.set_cons_succ])
          refine wpAnyH_take (i := 4) (v := ?_) (by rw [List.getElem?_toArray]; rfl) (by kernel_rfl) (by kernel_rfl) (by kernel_rfl) (by intro _ _ _ h; exact h) (Or.inl ⟨by rfl, ?_⟩) (by assumption) ?_
          rotate_left
          · (intro w hSw; (try dsimp only at hSw); go_simp; all_goals with_reducible rfl)
          (try simp only [Act.put, List.setIfInBounds_toArray, List.set_cons_zero, List.set_cons_succ])
          refine wpAnyH_ready (rs := [5]) (by kernel_rfl) (by simp) ?_
          refine AllReadyH.cons (by rw [List.getElem?_toArray]; rfl) (fun K hK => ?_) AllReadyH.nil
          go_simp
          refine (CA _).mono ?_; rintro e v ⟨rfl, hb⟩; clear x0 x1 x2 x3 x4 c0 c1; (replace X := X.below hb); (replace O := own_below O hb); (have HS2 := (HP.out.below hb HP.out.1)); (replace B := B.trans (hb.mono B.size)); clear hb; obtain ⟨x0, x1, x2, x3, x4⟩ := id X; (have c0 := (HS2.2 k hlt).1); (have c1 := (HS2.2 k hlt).2); (rw [HFL.out] at c0); (rw [HFH.out] at c1)
          (try go_wp2_with fail)
          refine hK.out _ _ ?_ (fun hHeld => ?_)
          · first | exact ⟨x1, x2, c0, c1⟩ | (simp (maxDischargeDepth := 6) [go_sem, *]; done)
          clear hK K
          (try simp only [Act.put, List.setIfInBounds_toArray, List.set_cons_zero, List.set_cons_succ])
          refine wpAnyH_take (i := 6) (v := ?_) (by rw [List.getElem?_toArray]; rfl) (by kernel_rfl) (by kernel_rfl) (by kernel_rfl) (by intro _ _ _ h; exact h) (Or.inl ⟨by rfl, ?_⟩) (by assumption) ?_
          rotate_left
          · (intro w hSw; (try dsimp only at hSw); go_simp; all_goals with_reducible rfl)
          (try simp only [Act.put, List.setIfInBounds_toArray, List.set_cons_zero, List.set_cons_succ])
          (try simp only [hmi])
          refine wpAnyH_done (by kernel_rfl) ?_ _
          have hvs := x0
          clear x0 x1 x2 x3 x4 c0 c1
          go_wp2_with (at_builtin; refine wpList_append_own _ rfl _ _ 44 rfl (w.heap.size + 1) 3 i0 (.int .i64 0) 1 8 Try.underlying44 hi9 hz0 hz1 hz2 rfl (by decide) _ _ _ rfl (World.ownsRow.alloc O _) ⟨v.heap.size, 0, none⟩ 1 1 [.int .i64 (k : Int)] rfl rfl (one_int v (k : Int) 3) (by intro u hu; simp at hu; subst hu; rfl) (by unfold maxLen; omega) (by omega) (by simp; omega) ?_; intro v' w9 O9 hg9 _)
          have G9 := grown_below (World.ownsRow.alloc O _) hg9 (by simp; omega)
          have A9 := Below.al9 v (.cells #[.int .i64 (k : Int)] 3)
          have X9 := (X.below A9).belowB G9 (Nat.lt_succ_self _)
          have B9 := (B.trans (A9.mono B.size)).trans (G9.mono (Nat.le_succ _))
          have R9 : w9.ownsRow (w.heap.size + 1) 3 1 v' (msN f lo hi (k + 1)).length (itL (msN f lo hi (k + 1))) := by rw [E.out, itL_add, List.length_append]; exact O9
          clear G9 A9 O9 hg9
          go_wp2
          go_roundw
          case rel => exact ⟨k + 1, by omega, by go_num, R9, X9, B9⟩
          case measure => simp [intOf]; omega
      · have hkn : k = n := by omega
        subst hkn
        have hli : ¬ (k : Int) < (k : Int) := by omega
        go_wp2_with fail
        go_ret
        exact ⟨_, rfl, own_base O (Nat.le_succ _), B⟩
set_option maxRecDepth 100000 in
set_option maxHeartbeats 4000000 in
theorem implMissing (a : Option Addr) (n c : Nat) (f : Nat → Int × Int) (lo hi : Int) (w : World) (hm : n ≤ maxLen) (hs : Src w a n f) :
    Calls Try.prog 33 #[.slice a n c, .agg #[.int .i64 lo, .int .i64 hi]] w fun e w' => ∃ v, e = .returned v ∧ w'.ownsRow w.heap.size 3 1 v (msL f n lo hi).length (itL (msL f n lo hi)) ∧ Below w.heap.size w w' := by
  obtain ⟨i0, hi9, hz0, hz1, hz2⟩ := info_parts infoInt
  have X := Vb.new w lo hi 33
  have B := Below.al9 w (.cells #[.int .i64 lo, .int .i64 hi] 33)
  have N0 : ∀ (b : Nat) (v : World), v.ownsRow b 3 1 (.slice none 0 0) 0 (itL []) := fun b v => World.ownsRow_nil _ _ _ _
  have HS : Hid (Src w a n f) := hs
  have CS := implSources a n c f (w.alloc (.cells #[.int .i64 lo, .int .i64 hi] 33)) hm (HS.out.below B)
  unfold maxLen at hm
  clear hs
  cases hsb : srcB f n
  · rw [msL_f hsb]
    go_enter Try.func33, Try.ntmps33
    go_wp2_with fail
    refine CS.mono ?_
    rintro e w1 ⟨rfl, hb⟩
    rw [hsb]
    go_wp2_with fail
    go_ret
    exact ⟨_, rfl, N0 _ _, B.trans (hb.mono B.size)⟩
  · rw [msL_t hsb]
    cases hok : okI lo hi
    · rw [ms_bad hok]
      go_enter Try.func33, Try.ntmps33
      go_wp2_with fail
      refine CS.mono ?_
      rintro e w1 ⟨rfl, hb⟩
      rw [hsb]
      replace X := X.below hb
      replace B := B.trans (hb.mono B.size)
      clear hb
      obtain ⟨x0, x1, x2, x3, x4⟩ := id X
      go_wp2_with fail
      refine (ok_any _ _ _).mono ?_
      rintro e w2 ⟨rfl, hb⟩
      rw [hok]
      go_wp2_with fail
      go_ret
      exact ⟨_, rfl, N0 _ _, B.trans (hb.mono B.size)⟩
    · have ⟨hn, ho⟩ := srcB_le hsb
      have HO : Hid (∀ k, k < n → meetB (f k).1 (f k).2 lo hi = !(mi f lo hi k)) := fun k hk => mi_meet (allOk_at ho k hk) hok
      go_enter Try.func33, Try.ntmps33
      go_wp2_with fail
      refine CS.mono ?_
      rintro e w1 ⟨rfl, hb⟩
      rw [hsb]
      replace X := X.below hb
      replace B := B.trans (hb.mono B.size)
      clear hb CS
      obtain ⟨x0, x1, x2, x3, x4⟩ := id X
      go_wp2_with fail
      refine (ok_any _ _ _).mono ?_
      rintro e w2 ⟨rfl, hb⟩
      rw [hok]
      clear x0 x1 x2 x3 x4
      replace X := X.below hb
      replace B := B.trans (hb.mono B.size)
      clear hb ho hok hsb
      go_wp2_with fail
      go_loopw [5, 21] (fun v i wr => ∃ k : Nat, k ≤ n ∧ i = .int .i64 k ∧ wr.ownsRow (w.heap.size + 1) 3 1 v (msN f lo hi k).length (itL (msN f lo hi k)) ∧ Vb wr w.heap.size lo hi ∧ Below w.heap.size w wr) (fun _ i _ => n - (intOf i).toNat)
      case atStart => exact ⟨0, Nat.zero_le _, rfl, N0 _ _, X, B⟩
      case round =>
        clear X B
        obtain ⟨k, hk, rfl, O, X, B⟩ := hrel
        by_cases hlt : k < n
        · have hli : (k : Int) < (n : Int) := by omega
          rcases HS.out.below B with h0 | ⟨b, off, rfl, hp⟩
          · omega
          have c0 := (hp.2 k hlt).1
          have c1 := (hp.2 k hlt).2
          have hml := ms_len f lo hi k
          have CM := fun (v : World) => implMeet_any (f k).1 (f k).2 lo hi v
          rw [HO.out k hlt] at CM
          generalize (f k).1 = fl at *
          generalize (f k).2 = fh at *
          have A := Below.al9 wr (.cells #[.int .i64 fl, .int .i64 fh] 33)
          have Y := Vb.new wr fl fh 33
          have XA := X.below A
          have OA := own_below O A
          have BA := B.trans (A.mono B.size)
          obtain ⟨x0, x1, x2, x3, x4⟩ := id X
          clear hp A O B
          go_upto_region 7 with fail
          clear c0 c1 x0 x1 x2 x3 x4 X
          generalize hj : wr.heap.size = j at *
          generalize wr.alloc (.cells #[.int .i64 fl, .int .i64 fh] 33) = v at *
          clear hj
          obtain ⟨x0, x1, x2, x3, x4⟩ := id XA
          obtain ⟨y0, y1, y2, y3, y4⟩ := id Y
          go_wp2_with fail
          refine (CM _).mono ?_
          rintro e v2 ⟨rfl, hb⟩
          clear x0 x1 x2 x3 x4 y0 y1 y2 y3 y4 Y
          replace XA := XA.below hb
          replace OA := own_below OA hb
          replace BA := BA.trans (hb.mono BA.size)
          clear hb CM
          generalize sel (!mi f lo hi k) (imx fl lo) = ml at *
          generalize sel (!mi f lo hi k) (imn fh hi) = mh at *
          have A := Below.al9 v2 (.cells #[.int .i64 ml, .int .i64 mh] 33)
          have X := XA.below A
          have O := own_below OA A
          have B := BA.trans (A.mono BA.size)
          clear A XA OA BA
          cases hmi : mi f lo hi k
          · have E : Hid (msN f lo hi (k + 1) = msN f lo hi k) := ms_no hmi
            go_wp2_with fail
            go_roundw
            case rel => exact ⟨k + 1, by omega, by go_num, by rw [E.out]; exact O, X, B⟩
            case measure => simp [intOf]; omega
          · have E : Hid (msN f lo hi (k + 1) = msN f lo hi k ++ [(k : Int)]) := ms_yes hmi
            have hvs := X.1
            go_upto_region 8 with fail
            generalize v2.alloc (.cells #[.int .i64 ml, .int .i64 mh] 33) = v3 at *
            go_wp2_with (at_builtin; refine wpList_append_own _ rfl _ _ 44 rfl (w.heap.size + 1) 3 i0 (.int .i64 0) 1 8 Try.underlying44 hi9 hz0 hz1 hz2 rfl (by decide) _ _ _ rfl (World.ownsRow.alloc O _) ⟨v3.heap.size, 0, none⟩ 1 1 [.int .i64 (k : Int)] rfl rfl (one_int v3 (k : Int) 3) (by intro u hu; simp at hu; subst hu; rfl) (by unfold maxLen; omega) (by omega) (by simp; omega) ?_; intro v' w9 O9 hg9 _)
            have G9 := grown_below (World.ownsRow.alloc O _) hg9 (by simp; omega)
            have A9 := Below.al9 v3 (.cells #[.int .i64 (k : Int)] 3)
            have X9 := (X.below A9).belowB G9 (Nat.lt_succ_self _)
            have B9 := (B.trans (A9.mono B.size)).trans (G9.mono (Nat.le_succ _))
            have R9 : w9.ownsRow (w.heap.size + 1) 3 1 v' (msN f lo hi (k + 1)).length (itL (msN f lo hi (k + 1))) := by rw [E.out, itL_add, List.length_append]; exact O9
            clear G9 A9 O9 hg9
            go_wp2
            go_roundw
            case rel => exact ⟨k + 1, by omega, by go_num, R9, X9, B9⟩
            case measure => simp [intOf]; omega
        · have hkn : k = n := by omega
          subst hkn
          have hli : ¬ (k : Int) < (k : Int) := by omega
          go_wp2_with fail
          go_ret
          exact ⟨_, rfl, own_base O (Nat.le_succ _), B⟩
end Go.Proofs.Ytmnheknjllobdaa
