/- The walk of FnTrip. -/
import Derived.Test.YtnkgdohccdcipaaV81
import Derived.Test.YtnkgdohccdcipaaV82
import Derived.Test.YtnkgdohccdcipaaR85
import Derived.Deep.RegionHeld3
import Derived.Deep.DeepCutAuto
import Derived.WalkKit
import Derived.WalkSpells
import Derived.WalkLawsBesides
import Derived.Deep.RegionHeld
namespace Go.Proofs.Ytnkgdohccdcipaa
open Go.RowKit
set_option linter.unusedVariables false
theorem fits_no {n d fr lo hi s g p m q : Int} (h : tfB n d fr lo hi s g p m q = true) : 0 ≤ g ∧ g ≤ 1000000000000 ∧ 0 ≤ q ∧ q ≤ 1000000000000 := by
  obtain ⟨t1, _, ⟨t3, t4, t5, t6⟩, _, _⟩ := tf_all h
  obtain ⟨_, _, a, b, c⟩ := trB_t t1
  omega
theorem cl_bd {n d b v : Int} (h : ctB n d b = true) : 0 ≤ clI n d b v ∧ clI n d b v ≤ 1000000000000 := okT_t (clI_in8 (t := v) h).2.2.1
set_option maxRecDepth 100000 in
set_option maxHeartbeats 16000000 in
theorem walkTrip (a0 : Option Addr) (l0 c0 : Nat) (w : World) (hcode : CodeB w w.heap.size a0 l0) :
    Calls Try.prog 3 #[.slice a0 l0 c0] w fun e w' => e = .returned (.bool true) ∧ Below w.heap.size w w' := by
  have HC := HidV.mk hcode
  clear hcode
  go_enter Try.func3, Try.ntmps3
  go_wp2_with fail
  refine (big_any _ _ _ _).mono ?_
  rintro e w' ⟨rfl, rfl⟩
  by_cases hbg : 1048576 < (l0 : Int)
  · have hbd : decide (1048576 < (l0 : Int)) = true := decide_eq_true hbg
    go_wp2
    go_ret
    exact ⟨rfl, Below.refl _ _⟩
  have hbd : decide (1048576 < (l0 : Int)) = false := decide_eq_false hbg
  have hl0 : l0 ≤ 1048576 := by omega
  go_wp2_with fail
  refine (DrawTripFits_any a0 l0 c0 w hl0 HC.out).mono ?_
  rintro e v ⟨n, d, fr, lo, hi, s, g, p, m, q, rfl, B⟩
  clear hbd hbg
  have M := (Bx.new v n d 25).alloc (.cells #[.int .i64 fr, .int .i64 lo, .int .i64 hi, .int .i64 s, .int .i64 g] 29)
  have T := Box5.new (v.alloc (.cells #[.int .i64 n, .int .i64 d] 25)) fr lo hi s g 29
  simp only [World.size_alloc] at T
  replace B := (B.alloc B.size (.cells #[.int .i64 n, .int .i64 d] 25)).alloc (by have := B.size; simp; omega) (.cells #[.int .i64 fr, .int .i64 lo, .int .i64 hi, .int .i64 s, .int .i64 g] 29)
  have HN := HidV.mk (fun h : tfB n d fr lo hi s g p m q = true => fits_no h)
  have HH := HidV.mk (fun (h : tfB n d fr lo hi s g p m q = true) (hz : tbC n d fr lo hi s g = 0) => trip_holds h hz)
  have HL := HidV.mk (fun (t v : Int) (h : tfB n d fr lo hi s g p m q = true) (hz : tbC n d fr lo hi s g = 0) (hc : ctB n d t = true) (hl : ctC n d fr lo hi s g (g + clI n d t v) = 0) => trip_later h hz hc hl)
  have C1 := fun w' => implTripFits_any n d fr lo hi s g p m q w'
  have C2 := fun w' => specTripFits_any n d fr lo hi s g p m q w'
  go_wp2_with fail
  generalize hK : v.heap.size = K at *
  clear hK
  generalize (v.alloc (.cells #[.int .i64 n, .int .i64 d] 25)).alloc (.cells #[.int .i64 fr, .int .i64 lo, .int .i64 hi, .int .i64 s, .int .i64 g] 29) = v at *
  (obtain ⟨m0, m1, m2, m3, m4⟩ := id M); (obtain ⟨t0, t1, t2, t3, t4, t5, t6, t7, t8, t9, t10⟩ := id T)
  refine (C1 _).mono ?_
  rintro e v ⟨rfl, hb⟩
  clear m0 m1 m2 m3 m4 t0 t1 t2 t3 t4 t5 t6 t7 t8 t9 t10; (replace M := M.below hb); (replace T := T.below hb); (replace B := B.trans (hb.mono B.size)); clear hb
  (obtain ⟨m0, m1, m2, m3, m4⟩ := id M); (obtain ⟨t0, t1, t2, t3, t4, t5, t6, t7, t8, t9, t10⟩ := id T)
  go_wp2_with fail
  refine (C2 _).mono ?_
  rintro e v ⟨rfl, hb⟩
  clear m0 m1 m2 m3 m4 t0 t1 t2 t3 t4 t5 t6 t7 t8 t9 t10; (replace M := M.below hb); (replace T := T.below hb); (replace B := B.trans (hb.mono B.size)); clear hb
  clear C1 C2
  cases hf : tfB n d fr lo hi s g p m q
  · clear HN HH HL HC
    have C3 := fun w' => implTripFits_any 0 1 0 2 3 0 5 0 2 5 w'
    rw [fits_one] at C3
    (obtain ⟨m0, m1, m2, m3, m4⟩ := id M); (obtain ⟨t0, t1, t2, t3, t4, t5, t6, t7, t8, t9, t10⟩ := id T)
    go_wp2_with fail
    refine (C3 _).mono ?_
    rintro e v ⟨rfl, hb⟩
    clear m0 m1 m2 m3 m4 t0 t1 t2 t3 t4 t5 t6 t7 t8 t9 t10; (replace M := M.below hb); (replace T := T.below hb); (replace B := B.trans (hb.mono B.size)); clear hb
    go_wp2_with fail
    go_ret
    exact ⟨rfl, B⟩
  obtain ⟨g1, g2, g3, g4⟩ := HN.out hf
  replace HH := HidV.mk (HH.out hf)
  replace HL := HidV.mk (fun t v => HL.out t v hf)
  clear HN
  have C1 := fun w' => implTripBound_any n d fr lo hi s g w'
  have C2 := fun w' => specTripBound_any n d fr lo hi s g w'
  (obtain ⟨m0, m1, m2, m3, m4⟩ := id M); (obtain ⟨t0, t1, t2, t3, t4, t5, t6, t7, t8, t9, t10⟩ := id T)
  go_wp2_with fail
  refine (C1 _).mono ?_
  rintro e v ⟨rfl, hb⟩
  clear m0 m1 m2 m3 m4 t0 t1 t2 t3 t4 t5 t6 t7 t8 t9 t10; (replace M := M.below hb); (replace T := T.below hb); (replace B := B.trans (hb.mono B.size)); clear hb
  have A := Bx.new v (tbL n d fr lo hi s g) (tbH n d fr lo hi s g) 27
  (replace M := M.alloc (.cells #[.int .i64 (tbL n d fr lo hi s g), .int .i64 (tbH n d fr lo hi s g)] 27)); (replace T := T.alloc (.cells #[.int .i64 (tbL n d fr lo hi s g), .int .i64 (tbH n d fr lo hi s g)] 27)); (replace B := B.alloc B.size (.cells #[.int .i64 (tbL n d fr lo hi s g), .int .i64 (tbH n d fr lo hi s g)] 27))
  (obtain ⟨m0, m1, m2, m3, m4⟩ := id M); (obtain ⟨t0, t1, t2, t3, t4, t5, t6, t7, t8, t9, t10⟩ := id T); (obtain ⟨f0, f1, f2, f3, f4⟩ := id A)
  go_wp2_with fail
  refine (C2 _).mono ?_
  rintro e v ⟨rfl, hb⟩
  clear m0 m1 m2 m3 m4 t0 t1 t2 t3 t4 t5 t6 t7 t8 t9 t10 f0 f1 f2 f3 f4; (replace M := M.below hb); (replace T := T.below hb); (replace A := A.below hb); (replace B := B.trans (hb.mono B.size)); clear hb
  clear C1 C2
  (replace M := M.alloc (.cells #[.int .i64 (tbL n d fr lo hi s g), .int .i64 (tbH n d fr lo hi s g)] 27)); (replace T := T.alloc (.cells #[.int .i64 (tbL n d fr lo hi s g), .int .i64 (tbH n d fr lo hi s g)] 27)); (replace A := A.alloc (.cells #[.int .i64 (tbL n d fr lo hi s g), .int .i64 (tbH n d fr lo hi s g)] 27)); (replace B := B.alloc B.size (.cells #[.int .i64 (tbL n d fr lo hi s g), .int .i64 (tbH n d fr lo hi s g)] 27))
  have HV := fun w' => implHolds_any (tbL n d fr lo hi s g) (tbH n d fr lo hi s g) q w'
  have AT1 := fun v' (h : CodeB v' w.heap.size a0 l0) => at_any a0 l0 c0 1 w.heap.size v' hl0 (by decide) h
  have AT2 := fun v' (h : CodeB v' w.heap.size a0 l0) => at_any a0 l0 c0 2 w.heap.size v' hl0 (by decide) h
  by_cases hz : tbC n d fr lo hi s g = 0
  · have hh := HH.out hz
    rw [hh] at HV
    replace HL := HidV.mk (fun t v => HL.out t v hz)
    clear HH hh
    rw [hz]
    generalize tbL n d fr lo hi s g = X at *
    generalize tbH n d fr lo hi s g = Y at *
    (obtain ⟨m0, m1, m2, m3, m4⟩ := id M); (obtain ⟨t0, t1, t2, t3, t4, t5, t6, t7, t8, t9, t10⟩ := id T); (obtain ⟨f0, f1, f2, f3, f4⟩ := id A)
    go_wp2_with fail
    refine (HV _).mono ?_
    rintro e v ⟨rfl, hb⟩
    clear m0 m1 m2 m3 m4 t0 t1 t2 t3 t4 t5 t6 t7 t8 t9 t10 f0 f1 f2 f3 f4; (replace M := M.below hb); (replace T := T.below hb); (replace A := A.below hb); (replace B := B.trans (hb.mono B.size)); clear hb
    clear HV
    (obtain ⟨m0, m1, m2, m3, m4⟩ := id M); (obtain ⟨t0, t1, t2, t3, t4, t5, t6, t7, t8, t9, t10⟩ := id T); (obtain ⟨f0, f1, f2, f3, f4⟩ := id A)
    go_wp2_with fail
    refine (AT1 _ (HC.out.below B)).mono ?_
    rintro e v' ⟨t, rfl, t0l, t0h, rfl⟩
    go_wp2_with fail
    refine wp_region_held_drew (S := (fun w' => w'.cell? ⟨K, 0, none⟩ = some (.int .i64 n) ∧ w'.cell? ⟨K, 1, none⟩ = some (.int .i64 d) ∧ CodeB w' w.heap.size a0 l0)) (by kernel_rfl) ?_ (fun hHeld => ?_)
    · first | exact ⟨m1, m2, HC.out.below B⟩ | exact ⟨m1, m2, HC.out.below B.drew⟩
    clear m0 m1 m2 m3 m4 t0 t1 t2 t3 t4 t5 t6 t7 t8 t9 t10 f0 f1 f2 f3 f4
    replace M := M.drew
    replace T := T.drew
    replace A := A.drew
    replace B := B.drew
    generalize v.drew = v at *
    (obtain ⟨m0, m1, m2, m3, m4⟩ := id M); (obtain ⟨t0, t1, t2, t3, t4, t5, t6, t7, t8, t9, t10⟩ := id T); (obtain ⟨f0, f1, f2, f3, f4⟩ := id A)
    refine wpAnyH_take (i := 0) (v := ?_) (by rw [List.getElem?_toArray]; rfl) (by kernel_rfl) (by kernel_rfl) (by kernel_rfl) (by intro _ _ _ h; exact h) (Or.inl ⟨by rfl, ?_⟩) (by assumption) ?_
    rotate_left
    · (intro w hSw; (try dsimp only at hSw); go_simp; all_goals with_reducible rfl)
    (try simp only [Act.put, List.setIfInBounds_toArray, List.set_cons_zero, List.set_cons_succ])
    refine wpAnyH_take (i := 1) (v := ?_) (by rw [List.getElem?_toArray]; rfl) (by kernel_rfl) (by kernel_rfl) (by kernel_rfl) (by intro _ _ _ h; exact h) (Or.inl ⟨by rfl, ?_⟩) (by assumption) ?_
    rotate_left
    · (intro w hSw; (try dsimp only at hSw); go_simp; all_goals with_reducible rfl)
    (try simp only [Act.put, List.setIfInBounds_toArray, List.set_cons_zero, List.set_cons_succ])
    refine wpAnyH_take (i := 2) (v := ?_) (by rw [List.getElem?_toArray]; rfl) (by kernel_rfl) (by kernel_rfl) (by kernel_rfl) (by intro _ _ _ h; exact h) (Or.inl ⟨by rfl, ?_⟩) (by assumption) ?_
    rotate_left
    · (intro w hSw; (try dsimp only at hSw); go_simp; all_goals with_reducible rfl)
    (try simp only [Act.put, List.setIfInBounds_toArray, List.set_cons_zero, List.set_cons_succ])
    refine wpAnyH_ready (rs := [3]) (by kernel_rfl) (by simp) ?_
    refine AllReadyH.cons (by rw [List.getElem?_toArray]; rfl) (fun K hK => ?_) AllReadyH.nil
    go_simp
    refine (AT2 _ (HC.out.below B)).mono ?_; rintro e v' ⟨y, rfl, yl, yh, rfl⟩
    (try go_wp2_with fail)
    refine hK.out _ _ ?_ (fun hHeld => ?_)
    · first | exact ⟨m1, m2, HC.out.below B⟩ | exact ⟨m1, m2, HC.out.below B.drew⟩
    clear hK K
    (try simp only [Act.put, List.setIfInBounds_toArray, List.set_cons_zero, List.set_cons_succ])
    refine wpAnyH_ready (rs := [4]) (by kernel_rfl) (by simp) ?_
    refine AllReadyH.cons (by rw [List.getElem?_toArray]; rfl) (fun K hK => ?_) AllReadyH.nil
    go_simp
    refine (specClamp_any _ _ _ _ _).mono ?_; rintro e v ⟨rfl, hb⟩; clear m0 m1 m2 m3 m4 t0 t1 t2 t3 t4 t5 t6 t7 t8 t9 t10 f0 f1 f2 f3 f4; (replace M := M.below hb); (replace T := T.below hb); (replace A := A.below hb); (replace B := B.trans (hb.mono B.size)); clear hb; (obtain ⟨m0, m1, m2, m3, m4⟩ := id M); (obtain ⟨t0, t1, t2, t3, t4, t5, t6, t7, t8, t9, t10⟩ := id T); (obtain ⟨f0, f1, f2, f3, f4⟩ := id A)
    (try go_wp2_with fail)
    refine hK.out _ _ ?_ (fun hHeld => ?_)
    · first | exact ⟨m1, m2, HC.out.below B⟩ | exact ⟨m1, m2, HC.out.below B.drew⟩
    clear hK K
    (try simp only [Act.put, List.setIfInBounds_toArray, List.set_cons_zero, List.set_cons_succ])
    refine wpAnyH_take (i := 5) (v := ?_) (by rw [List.getElem?_toArray]; rfl) (by kernel_rfl) (by kernel_rfl) (by kernel_rfl) (by intro _ _ _ h; exact h) (Or.inl ⟨by rfl, ?_⟩) (by assumption) ?_
    rotate_left
    · (intro w hSw; (try dsimp only at hSw); go_simp; all_goals with_reducible rfl)
    (try simp only [Act.put, List.setIfInBounds_toArray, List.set_cons_zero, List.set_cons_succ])
    refine wpAnyH_take (i := 6) (v := ?_) (by rw [List.getElem?_toArray]; rfl) (by kernel_rfl) (by kernel_rfl) (by kernel_rfl) (by intro _ _ _ h; exact h) (Or.inl ⟨by rfl, ?_⟩) (by assumption) ?_
    rotate_left
    · (intro w hSw; (try dsimp only at hSw); go_simp; all_goals with_reducible rfl)
    (try simp only [Act.put, List.setIfInBounds_toArray, List.set_cons_zero, List.set_cons_succ])
    refine wpAnyH_take (i := 7) (v := ?_) (by rw [List.getElem?_toArray]; rfl) (by kernel_rfl) (by kernel_rfl) (by kernel_rfl) (by intro _ _ _ h; exact h) (Or.inl ⟨by rfl, ?_⟩) (by assumption) ?_
    rotate_left
    · (intro w hSw; (try dsimp only at hSw); go_simp; all_goals with_reducible rfl)
    (try simp only [Act.put, List.setIfInBounds_toArray, List.set_cons_zero, List.set_cons_succ])
    refine wpAnyH_take (i := 8) (v := ?_) (by rw [List.getElem?_toArray]; rfl) (by kernel_rfl) (by kernel_rfl) (by kernel_rfl) (by intro _ _ _ h; exact h) (Or.inl ⟨by rfl, ?_⟩) (by assumption) ?_
    rotate_left
    · (intro w hSw; (try dsimp only at hSw); go_simp; all_goals with_reducible rfl)
    (try simp only [Act.put, List.setIfInBounds_toArray, List.set_cons_zero, List.set_cons_succ])
    refine wpAnyH_take (i := 9) (v := ?_) (by rw [List.getElem?_toArray]; rfl) (by kernel_rfl) (by kernel_rfl) (by kernel_rfl) (by intro _ _ _ h; exact h) (Or.inl ⟨by rfl, ?_⟩) (by assumption) ?_
    rotate_left
    · (intro w hSw; (try dsimp only at hSw); go_simp; all_goals with_reducible rfl)
    (try simp only [Act.put, List.setIfInBounds_toArray, List.set_cons_zero, List.set_cons_succ])
    refine wpAnyH_done (by kernel_rfl) ?_ _
    cases hk : ctB n d t
    · rw [sel_f rfl]
      go_wp2_with fail
      go_ret
      exact ⟨rfl, B⟩
    · rw [sel_t rfl]
      obtain ⟨c1, c2⟩ := cl_bd (v := y) hk
      replace HL := HidV.mk (HL.out t y hk)
      generalize clI n d t y = C at *
      have gc0 : 0 ≤ g + C := by omega
      have gc1 : g + C ≤ 2000000000000 := by omega
      have qt0 : 0 ≤ q + t := by omega
      have qt1 : q + t ≤ 2000000000000 := by omega
      have D1 := fun w' => implCarryTrip_any n d fr lo hi s g (g + C) w'
      have D2 := fun w' => specCarryTrip_any n d fr lo hi s g (g + C) w'
      have D3 := fun w' => implHolds_any (ctL n d fr lo hi s g (g + C)) (ctH n d fr lo hi s g (g + C)) (q + t) w'
      go_wp2_with fail
      refine (D1 _).mono ?_
      rintro e v ⟨rfl, hb⟩
      clear m0 m1 m2 m3 m4 t0 t1 t2 t3 t4 t5 t6 t7 t8 t9 t10 f0 f1 f2 f3 f4; (replace M := M.below hb); (replace T := T.below hb); (replace A := A.below hb); (replace B := B.trans (hb.mono B.size)); clear hb
      have U := Bx.new v (ctL n d fr lo hi s g (g + C)) (ctH n d fr lo hi s g (g + C)) 27
      (replace M := M.alloc (.cells #[.int .i64 (ctL n d fr lo hi s g (g + C)), .int .i64 (ctH n d fr lo hi s g (g + C))] 27)); (replace T := T.alloc (.cells #[.int .i64 (ctL n d fr lo hi s g (g + C)), .int .i64 (ctH n d fr lo hi s g (g + C))] 27)); (replace A := A.alloc (.cells #[.int .i64 (ctL n d fr lo hi s g (g + C)), .int .i64 (ctH n d fr lo hi s g (g + C))] 27)); (replace B := B.alloc B.size (.cells #[.int .i64 (ctL n d fr lo hi s g (g + C)), .int .i64 (ctH n d fr lo hi s g (g + C))] 27))
      (obtain ⟨m0, m1, m2, m3, m4⟩ := id M); (obtain ⟨t0, t1, t2, t3, t4, t5, t6, t7, t8, t9, t10⟩ := id T); (obtain ⟨f0, f1, f2, f3, f4⟩ := id A); (obtain ⟨u0, u1, u2, u3, u4⟩ := id U)
      go_wp2_with fail
      refine (D2 _).mono ?_
      rintro e v ⟨rfl, hb⟩
      clear m0 m1 m2 m3 m4 t0 t1 t2 t3 t4 t5 t6 t7 t8 t9 t10 f0 f1 f2 f3 f4 u0 u1 u2 u3 u4; (replace M := M.below hb); (replace T := T.below hb); (replace A := A.below hb); (replace U := U.below hb); (replace B := B.trans (hb.mono B.size)); clear hb
      clear D1 D2
      (replace M := M.alloc (.cells #[.int .i64 (ctL n d fr lo hi s g (g + C)), .int .i64 (ctH n d fr lo hi s g (g + C))] 27)); (replace T := T.alloc (.cells #[.int .i64 (ctL n d fr lo hi s g (g + C)), .int .i64 (ctH n d fr lo hi s g (g + C))] 27)); (replace A := A.alloc (.cells #[.int .i64 (ctL n d fr lo hi s g (g + C)), .int .i64 (ctH n d fr lo hi s g (g + C))] 27)); (replace U := U.alloc (.cells #[.int .i64 (ctL n d fr lo hi s g (g + C)), .int .i64 (ctH n d fr lo hi s g (g + C))] 27)); (replace B := B.alloc B.size (.cells #[.int .i64 (ctL n d fr lo hi s g (g + C)), .int .i64 (ctH n d fr lo hi s g (g + C))] 27))
      by_cases hw : ctC n d fr lo hi s g (g + C) = 0
      · rw [HL.out hw] at D3
        rw [hw]
        generalize ctL n d fr lo hi s g (g + C) = P at *
        generalize ctH n d fr lo hi s g (g + C) = R at *
        (obtain ⟨m0, m1, m2, m3, m4⟩ := id M); (obtain ⟨t0, t1, t2, t3, t4, t5, t6, t7, t8, t9, t10⟩ := id T); (obtain ⟨f0, f1, f2, f3, f4⟩ := id A); (obtain ⟨u0, u1, u2, u3, u4⟩ := id U)
        go_wp2_with fail
        refine (D3 _).mono ?_
        rintro e v ⟨rfl, hb⟩
        clear m0 m1 m2 m3 m4 t0 t1 t2 t3 t4 t5 t6 t7 t8 t9 t10 f0 f1 f2 f3 f4 u0 u1 u2 u3 u4; (replace M := M.below hb); (replace T := T.below hb); (replace A := A.below hb); (replace U := U.below hb); (replace B := B.trans (hb.mono B.size)); clear hb
        go_wp2_with fail
        go_ret
        exact ⟨rfl, B⟩
      · clear HL D3
        generalize ctL n d fr lo hi s g (g + C) = P at *
        generalize ctH n d fr lo hi s g (g + C) = R at *
        generalize ctC n d fr lo hi s g (g + C) = Z at *
        have dw : decide (Z = 0) = false := decide_eq_false hw
        go_wp2_with fail
        go_ret
        exact ⟨rfl, B⟩
  · clear HH HL HV
    generalize tbL n d fr lo hi s g = X at *
    generalize tbH n d fr lo hi s g = Y at *
    generalize tbC n d fr lo hi s g = Z at *
    have dz : decide (Z = 0) = false := decide_eq_false hz
    (obtain ⟨m0, m1, m2, m3, m4⟩ := id M); (obtain ⟨t0, t1, t2, t3, t4, t5, t6, t7, t8, t9, t10⟩ := id T); (obtain ⟨f0, f1, f2, f3, f4⟩ := id A)
    go_wp2_with fail
    refine (AT1 _ (HC.out.below B)).mono ?_
    rintro e v' ⟨t, rfl, t0l, t0h, rfl⟩
    go_wp2_with fail
    refine wp_region_held_drew (S := (fun w' => w'.cell? ⟨K, 0, none⟩ = some (.int .i64 n) ∧ w'.cell? ⟨K, 1, none⟩ = some (.int .i64 d) ∧ CodeB w' w.heap.size a0 l0)) (by kernel_rfl) ?_ (fun hHeld => ?_)
    · first | exact ⟨m1, m2, HC.out.below B⟩ | exact ⟨m1, m2, HC.out.below B.drew⟩
    clear m0 m1 m2 m3 m4 t0 t1 t2 t3 t4 t5 t6 t7 t8 t9 t10 f0 f1 f2 f3 f4
    replace M := M.drew
    replace T := T.drew
    replace A := A.drew
    replace B := B.drew
    generalize v.drew = v at *
    (obtain ⟨m0, m1, m2, m3, m4⟩ := id M); (obtain ⟨t0, t1, t2, t3, t4, t5, t6, t7, t8, t9, t10⟩ := id T); (obtain ⟨f0, f1, f2, f3, f4⟩ := id A)
    refine wpAnyH_take (i := 0) (v := ?_) (by rw [List.getElem?_toArray]; rfl) (by kernel_rfl) (by kernel_rfl) (by kernel_rfl) (by intro _ _ _ h; exact h) (Or.inl ⟨by rfl, ?_⟩) (by assumption) ?_
    rotate_left
    · (intro w hSw; (try dsimp only at hSw); go_simp; all_goals with_reducible rfl)
    (try simp only [Act.put, List.setIfInBounds_toArray, List.set_cons_zero, List.set_cons_succ])
    refine wpAnyH_take (i := 1) (v := ?_) (by rw [List.getElem?_toArray]; rfl) (by kernel_rfl) (by kernel_rfl) (by kernel_rfl) (by intro _ _ _ h; exact h) (Or.inl ⟨by rfl, ?_⟩) (by assumption) ?_
    rotate_left
    · (intro w hSw; (try dsimp only at hSw); go_simp; all_goals with_reducible rfl)
    (try simp only [Act.put, List.setIfInBounds_toArray, List.set_cons_zero, List.set_cons_succ])
    refine wpAnyH_take (i := 2) (v := ?_) (by rw [List.getElem?_toArray]; rfl) (by kernel_rfl) (by kernel_rfl) (by kernel_rfl) (by intro _ _ _ h; exact h) (Or.inl ⟨by rfl, ?_⟩) (by assumption) ?_
    rotate_left
    · (intro w hSw; (try dsimp only at hSw); go_simp; all_goals with_reducible rfl)
    (try simp only [Act.put, List.setIfInBounds_toArray, List.set_cons_zero, List.set_cons_succ])
    refine wpAnyH_ready (rs := [3]) (by kernel_rfl) (by simp) ?_
    refine AllReadyH.cons (by rw [List.getElem?_toArray]; rfl) (fun K hK => ?_) AllReadyH.nil
    go_simp
    refine (AT2 _ (HC.out.below B)).mono ?_; rintro e v' ⟨y, rfl, yl, yh, rfl⟩
    (try go_wp2_with fail)
    refine hK.out _ _ ?_ (fun hHeld => ?_)
    · first | exact ⟨m1, m2, HC.out.below B⟩ | exact ⟨m1, m2, HC.out.below B.drew⟩
    clear hK K
    (try simp only [Act.put, List.setIfInBounds_toArray, List.set_cons_zero, List.set_cons_succ])
    refine wpAnyH_ready (rs := [4]) (by kernel_rfl) (by simp) ?_
    refine AllReadyH.cons (by rw [List.getElem?_toArray]; rfl) (fun K hK => ?_) AllReadyH.nil
    go_simp
    refine (specClamp_any _ _ _ _ _).mono ?_; rintro e v ⟨rfl, hb⟩; clear m0 m1 m2 m3 m4 t0 t1 t2 t3 t4 t5 t6 t7 t8 t9 t10 f0 f1 f2 f3 f4; (replace M := M.below hb); (replace T := T.below hb); (replace A := A.below hb); (replace B := B.trans (hb.mono B.size)); clear hb; (obtain ⟨m0, m1, m2, m3, m4⟩ := id M); (obtain ⟨t0, t1, t2, t3, t4, t5, t6, t7, t8, t9, t10⟩ := id T); (obtain ⟨f0, f1, f2, f3, f4⟩ := id A)
    (try go_wp2_with fail)
    refine hK.out _ _ ?_ (fun hHeld => ?_)
    · first | exact ⟨m1, m2, HC.out.below B⟩ | exact ⟨m1, m2, HC.out.below B.drew⟩
    clear hK K
    (try simp only [Act.put, List.setIfInBounds_toArray, List.set_cons_zero, List.set_cons_succ])
    refine wpAnyH_take (i := 5) (v := ?_) (by rw [List.getElem?_toArray]; rfl) (by kernel_rfl) (by kernel_rfl) (by kernel_rfl) (by intro _ _ _ h; exact h) (Or.inl ⟨by rfl, ?_⟩) (by assumption) ?_
    rotate_left
    · (intro w hSw; (try dsimp only at hSw); go_simp; all_goals with_reducible rfl)
    (try simp only [Act.put, List.setIfInBounds_toArray, List.set_cons_zero, List.set_cons_succ])
    refine wpAnyH_take (i := 6) (v := ?_) (by rw [List.getElem?_toArray]; rfl) (by kernel_rfl) (by kernel_rfl) (by kernel_rfl) (by intro _ _ _ h; exact h) (Or.inl ⟨by rfl, ?_⟩) (by assumption) ?_
    rotate_left
    · (intro w hSw; (try dsimp only at hSw); go_simp; all_goals with_reducible rfl)
    (try simp only [Act.put, List.setIfInBounds_toArray, List.set_cons_zero, List.set_cons_succ])
    refine wpAnyH_take (i := 7) (v := ?_) (by rw [List.getElem?_toArray]; rfl) (by kernel_rfl) (by kernel_rfl) (by kernel_rfl) (by intro _ _ _ h; exact h) (Or.inl ⟨by rfl, ?_⟩) (by assumption) ?_
    rotate_left
    · (intro w hSw; (try dsimp only at hSw); go_simp; all_goals with_reducible rfl)
    (try simp only [Act.put, List.setIfInBounds_toArray, List.set_cons_zero, List.set_cons_succ])
    refine wpAnyH_take (i := 8) (v := ?_) (by rw [List.getElem?_toArray]; rfl) (by kernel_rfl) (by kernel_rfl) (by kernel_rfl) (by intro _ _ _ h; exact h) (Or.inl ⟨by rfl, ?_⟩) (by assumption) ?_
    rotate_left
    · (intro w hSw; (try dsimp only at hSw); go_simp; all_goals with_reducible rfl)
    (try simp only [Act.put, List.setIfInBounds_toArray, List.set_cons_zero, List.set_cons_succ])
    refine wpAnyH_take (i := 9) (v := ?_) (by rw [List.getElem?_toArray]; rfl) (by kernel_rfl) (by kernel_rfl) (by kernel_rfl) (by intro _ _ _ h; exact h) (Or.inl ⟨by rfl, ?_⟩) (by assumption) ?_
    rotate_left
    · (intro w hSw; (try dsimp only at hSw); go_simp; all_goals with_reducible rfl)
    (try simp only [Act.put, List.setIfInBounds_toArray, List.set_cons_zero, List.set_cons_succ])
    refine wpAnyH_done (by kernel_rfl) ?_ _
    cases hk : ctB n d t
    · rw [sel_f rfl]
      go_wp2_with fail
      go_ret
      exact ⟨rfl, B⟩
    · rw [sel_t rfl]
      generalize clI n d t y = C at *
      go_wp2_with fail
      go_ret
      exact ⟨rfl, B⟩
end Go.Proofs.Ytnkgdohccdcipaa
