/- The walk of FnRates. -/
import Derived.Test.YtblappilppfkiaaDoorX3
import Derived.Test.YtblappilppfkiaaDoorX2
import Derived.Deep.RegionHeld3
import Derived.Deep.DeepCutAuto
import Derived.Deep.QuietTactic
import Derived.WalkKit
import Derived.WalkSpells
import Derived.WalkLawsBesides
import Derived.Deep.RegionHeld
namespace Go.Proofs.YtblappilppfkiaaDoor
open Go.RowKit
set_option linter.unusedVariables false
theorem lo_at {T z : Int} (h1 : 0 ≤ T) (h2 : T ≤ 1000000000000) (z0 : 0 ≤ z) (z1 : z ≤ 255) : IntKind.i64.wrap (T - z.tmod 9) ≤ T := by
  have e : z.tmod 9 = z % 9 := Int.tmod_eq_emod_of_nonneg z0
  rw [e, Go.IntWalk.i64_in _ ⟨by omega, by omega⟩]; omega
theorem hi_at {T z : Int} (h1 : 0 ≤ T) (h2 : T ≤ 1000000000000) (z0 : 0 ≤ z) (z1 : z ≤ 255) : T ≤ IntKind.i64.wrap (T + z.tmod 9) := by
  have e : z.tmod 9 = z % 9 := Int.tmod_eq_emod_of_nonneg z0
  rw [e, Go.IntWalk.i64_in _ ⟨by omega, by omega⟩]; omega
theorem tmod_at {z : Int} {l : Nat} (z0 : 0 ≤ z) (hl : 1 ≤ l) : ∃ i : Nat, z.tmod (l : Int) = (i : Int) ∧ i < l := by
  refine ⟨(z % (l : Int)).toNat, ?_, ?_⟩
  · rw [Int.tmod_eq_emod_of_nonneg z0]
    have := Int.emod_nonneg z (b := (l : Int)) (by omega)
    omega
  · have := Int.emod_lt_of_pos z (b := (l : Int)) (by omega)
    have := Int.emod_nonneg z (b := (l : Int)) (by omega)
    omega
theorem first_one {z : Int} {l : Nat} (hl : 2 ≤ l) (z0 : 0 ≤ z) : ∃ i : Nat, z.tmod (l : Int) = (i : Int) ∧ i < l ∧ (i : Int) < (l : Int) ∧ ¬ (l : Int) = 0 := by
  obtain ⟨i, h1, h2⟩ := tmod_at z0 (show 1 ≤ l by omega)
  exact ⟨i, h1, h2, by omega, by omega⟩
theorem next_one {z : Int} {l i : Nat} (hi : i < l) (z0 : 0 ≤ z) : ∃ r k : Nat, z.tmod ((l : Int) - (i : Int)) = (r : Int) ∧ (i : Int) + (r : Int) = (k : Int) ∧ i ≤ k ∧ k < l ∧ (k : Int) < (l : Int) ∧ ¬ (l : Int) - (i : Int) = 0 := by
  obtain ⟨r, h1, h2⟩ := tmod_at z0 (show 1 ≤ l - i by omega)
  rw [show ((l - i : Nat) : Int) = (l : Int) - (i : Int) by omega] at h1
  exact ⟨r, i + r, h1, by omega, by omega, by omega, by omega, by omega⟩
theorem max11 {m : Nat} (h : m ≤ 1000) : m ≤ maxLen := by unfold maxLen; omega
theorem ival_guard (i j : Nat) (a b p q : Int) (w : World) : (eqGuard .eql 49 (.tmp i) (.tmp j) (.agg #[.int .i64 a, .int .i64 b]) (.agg #[.int .i64 p, .int .i64 q])).run Tryd.prog w = .ok () w := by kernel_rfl
set_option maxRecDepth 100000 in
set_option maxHeartbeats 16000000 in
theorem walkRates (a0 : Option Addr) (n0 c0 : Nat) (s s' : Addr) (w : World) (hst : s ≠ s') (E : Er w 0 s) (E1 : Er w 1 s') (hcode : CodeB w w.heap.size a0 n0) :
    Calls Tryd.prog 4 #[.slice a0 n0 c0] w fun e w' => e = .returned (.bool true) ∧ Below w.heap.size w w' := by
  by_cases hbig : (1048576 : Int) < (n0 : Int)
  · go_enter Tryd.func4, Tryd.ntmps4
    go_wp2_with (go_at_call 5; refine (big_any _ _ _ _).mono ?_; rintro e w' ⟨rfl, rfl⟩)
    go_ret
    exact ⟨rfl, Below.refl _ _⟩
  have hd : decide ((1048576 : Int) < (n0 : Int)) = false := by simp; omega
  have hn0 : n0 ≤ 1048576 := by omega
  have HC : Hid (CodeB w w.heap.size a0 n0) := hcode
  clear hcode hbig
  go_enter Tryd.func4, Tryd.ntmps4
  go_wp2_with (go_at_call 5; refine (big_any _ _ _ _).mono ?_; rintro e w' ⟨rfl, rfl⟩)
  refine (DrawOscRun_any a0 n0 c0 _ hn0 HC.out).mono ?_
  rintro e w1 ⟨x, y, t, u, vs, LS, rfl, O1, hLS, B1⟩
  obtain ⟨a, cp, rfl, hmc, hcm, hsrc⟩ := own_src O1
  have SR : Hid (Src w1 a LS.length fun i => LS.getD i (0, 0)) := hsrc
  clear O1 hsrc
  generalize (fun i => LS.getD i (0, 0)) = fs at *
  generalize LS.length = m at *
  have hmm : m ≤ maxLen := max11 hLS
  have A1 := Below.alc w1 (.cells #[.int .i64 x, .int .i64 y, .int .i64 t, .int .i64 u] 37)
  have O := Box4.new w1 x y t u 37
  have B := B1.trans (A1.mono B1.size)
  have SR' : Hid (Src (w1.alloc (.cells #[.int .i64 x, .int .i64 y, .int .i64 t, .int .i64 u] 37)) a m fs) := SR.out.below A1
  have CS := fun (w' : World) (h : Src w' a m fs) => specOscRun_any x y t u a m cp fs w' hmm h
  have HR : Hid ((runL x y t u fs m).length ≠ 0 → mrB x y (fun i => (runL x y t u fs m).getD i (0, 0)) (runL x y t u fs m).length 1 = true) := run_marks6
  clear A1 SR B1 hd
  generalize runL x y t u fs m = LL at *
  generalize runD x y t u fs m = DD at *
  go_upto_region 4 with fail
  generalize w1.alloc (.cells #[.int .i64 x, .int .i64 y, .int .i64 t, .int .i64 u] 37) = v1 at *
  generalize w1.heap.size = kO at *
  obtain ⟨o0, o1, o2, o3, o4, o5, o6, o7, o8⟩ := id O
  go_wp2_with fail
  refine (CS _ SR'.out).mono ?_
  rintro e v ⟨vm, rfl, OM, hb⟩
  clear o0 o1 o2 o3 o4 o5 o6 o7 o8
  replace B := B.trans (hb.mono B.size)
  replace O := O.below hb
  clear hb CS SR'
  obtain ⟨am, cm, rfl, hmc', hmm', SM⟩ := own_src OM
  have S0 : Hid (Src v am LL.length fun i => LL.getD i (0, 0)) := SM
  clear OM SM
  generalize (fun i => LL.getD i (0, 0)) = f at *
  generalize LL.length = l at *
  replace E := E.below B
  replace E1 := E1.below B
  have CR := fun w' E' => implRateOfDrift_any x y s w' E'
  have CD := fun w' => specDriftOk_any x y w'
  have CC := fun n w' E' => implRateCarry_any (rdX x y) (rdY x y) (rdZ x y) (rdU x y) n s w' E'
  have HCA : Hid (okD x y = true → ∀ c, 0 ≤ c → c ≤ 1000000 → rcB (rdX x y) (rdY x y) (rdZ x y) (rdU x y) c = true ∧ rcL (rdX x y) (rdY x y) (rdZ x y) (rdU x y) c = upI (c * y) (y + x) ∧ rcH (rdX x y) (rdY x y) (rdZ x y) (rdU x y) c = dnI (c * y) (y - x) ∧ btB x y c = true) := fun h c h0 h1 => rate_carry h h0 h1
  have HOD : Hid (l ≠ 0 → okD x y = true) := fun h => (mkB_t (mrB_t (HR.out h)).1).1
  generalize rdX x y = ra at *
  generalize rdY x y = rb at *
  generalize rdZ x y = rc at *
  generalize rdU x y = re at *
  have hoo : (okD x y != okD x y) = false := by simp
  obtain ⟨o0, o1, o2, o3, o4, o5, o6, o7, o8⟩ := id O
  go_wp2_with fail
  refine (CR _ E).mono ?_
  rintro e v2 ⟨rfl, nl⟩
  clear o0 o1 o2 o3 o4 o5 o6 o7 o8 CR
  replace S0 : Hid (Src v2 am l f) := S0.out.below nl
  replace O := O.below nl
  replace E := E.below nl
  replace E1 := E1.below nl
  replace B := B.trans (nl.mono B.size)
  clear nl
  have Z0 := Below.nw v2 (.cells #[.int .i64 ra, .int .i64 rb] 27)
  have Z1 := Below.nw (v2.alloc (.cells #[.int .i64 ra, .int .i64 rb] 27)) (.cells #[.int .i64 rc, .int .i64 re] 27)
  have KL := (Bx2.new v2 (.int .i64 ra) (.int .i64 rb) 27).below Z1
  have KH := Bx2.new (v2.alloc (.cells #[.int .i64 ra, .int .i64 rb] 27)) (.int .i64 rc) (.int .i64 re) 27
  simp only [World.size_alloc] at KH
  have nl := Z0.trans (Z1.mono Z0.size)
  clear Z0 Z1
  replace S0 : Hid (Src _ am l f) := S0.out.below nl
  replace O := O.below nl
  replace E := E.below nl
  replace E1 := E1.below nl
  replace B := B.trans (nl.mono B.size)
  clear nl
  go_upto_region 6 with fail
  generalize (v2.alloc (.cells #[.int .i64 ra, .int .i64 rb] 27)).alloc (.cells #[.int .i64 rc, .int .i64 re] 27) = v3 at *
  generalize v2.heap.size + 1 = kH at *
  generalize v2.heap.size = kL at *
  obtain ⟨o0, o1, o2, o3, o4, o5, o6, o7, o8⟩ := id O
  go_wp2_with fail
  refine (CD _).mono ?_
  rintro e v4 ⟨rfl, nl⟩
  clear o0 o1 o2 o3 o4 o5 o6 o7 o8 CD
  replace S0 : Hid (Src v4 am l f) := S0.out.below nl
  replace O := O.below nl
  replace KL := KL.below nl
  replace KH := KH.below nl
  replace E := E.below nl
  replace E1 := E1.below nl
  replace B := B.trans (nl.mono B.size)
  clear nl
  by_cases hl : (l : Int) < 2
  · have hl' : decide ((l : Int) < 2) = true := decide_eq_true hl
    have C0 := fun w' E' E1' => implRateBroken_any 0 1 0 0 0 5 5 5 s s' w' hst E' E1'
    have C1 := fun w' E' E1' => implRateBroken_any 0 1 0 0 0 5 5 6 s s' w' hst E' E1'
    rw [broken_no] at C0
    rw [broken_yes] at C1
    go_wp2_with fail
    refine (C0 _ E E1).mono ?_
    rintro e v5 ⟨rfl, nl⟩
    replace E := E.below nl
    replace E1 := E1.below nl
    replace B := B.trans (nl.mono B.size)
    clear nl
    go_wp2_with fail
    refine (C1 _ E E1).mono ?_
    rintro e v6 ⟨rfl, nl⟩
    replace B := B.trans (nl.mono B.size)
    clear nl
    go_wp2_with fail
    go_ret
    exact ⟨rfl, B⟩
  have hl' : decide ((l : Int) < 2) = false := decide_eq_false hl
  have hl2 : 2 ≤ l := by omega
  have HR1 : Hid (mrB x y f l 1 = true) := HR.out (by omega)
  have hod := HOD.out (by omega)
  have HCB : Hid _ := HCA.out hod
  clear HR HOD HCA hoo hod
  go_wp2_with fail
  refine (at_any a0 n0 c0 1 w.heap.size _ hn0 (by decide) (HC.out.below B)).mono ?_
  rintro e w' ⟨z, rfl, z0, z1, rfl⟩
  obtain ⟨i, hi, him, hi', hlz⟩ := first_one hl2 z0
  go_wp2_with fail
  refine (at_any a0 n0 c0 2 w.heap.size _ hn0 (by decide) (HC.out.below B)).mono ?_
  rintro e w' ⟨z', rfl, z0', z1', rfl⟩
  obtain ⟨r, j, hr, hkk, hij, hjm, hj', hlz'⟩ := next_one him z0'
  have ⟨_, _, _, hok⟩ := mkB_t (mrB_t HR1.out).1
  have ⟨i1, i2⟩ := okT_t (hok i him).1
  have ⟨i3, i4⟩ := okT_t (hok i him).2
  have ⟨j1, j2⟩ := okT_t (hok j hjm).1
  have ⟨j3, j4⟩ := okT_t (hok j hjm).2
  have HMP : Hid _ := mark_pair HR1.out hij hjm
  clear hok
  rcases S0.out with h0 | ⟨b, off, rfl, S⟩
  · exact absurd h0 (by intro h; omega)
  clear S0
  go_upto_region 12 with fail
  clear hi hr hkk hlz hlz' z0 z1 z0' z1' hl hl'

  have SK : Hid (∀ w', Below v4.heap.size v4 w' → w'.cell? ⟨b, off + i * 2, none⟩ = some (.int .i64 (f i).1)) := fun w' hw => ((S.below hw S.1).2 i him).1
  have cb := S.1
  go_cut [12] (fun sa wx => ∃ (kA : Nat) (al ah : Int), sa = .pointer (some ⟨kA, 0, none⟩) ∧ al ≤ (f i).1 ∧ (f i).1 ≤ ah ∧ Bx2 wx kA (.int .i64 al) (.int .i64 ah) ∧ Below v4.heap.size v4 wx)
  case first => as_aux_lemma =>
    refine wp_region_held_drew (S := (fun w' => w'.cell? ⟨b, off + i * 2, none⟩ = some (.int .i64 (f i).1))) (by kernel_rfl) ?_ (fun hHeld => ?_)
    · first | exact SK.out _ XB | exact SK.out _ (Below.drew (Below.refl _ _)) | exact keepC (keepC (SK.out _ XB) hbk) hbk
    have XB : Below v4.heap.size v4 v4.drew := Below.drew (Below.refl _ _)
    generalize v4.drew = vx at *
    refine wpAnyH_take (i := 0) (v := ?_) (by rw [List.getElem?_toArray]; rfl) (by kernel_rfl) (by kernel_rfl) (by kernel_rfl) (by intro _ _ _ h; exact h) (Or.inl ⟨by rfl, ?_⟩) (by assumption) ?_
    rotate_left
    · (intro w hSw; (try dsimp only at hSw); go_simp; all_goals with_reducible rfl)
    (try simp only [Act.put, List.setIfInBounds_toArray, List.set_cons_zero, List.set_cons_succ])
    refine wpAnyH_take (i := 1) (v := ?_) (by rw [List.getElem?_toArray]; rfl) (by kernel_rfl) (by kernel_rfl) (by kernel_rfl) (by intro _ _ _ h; exact h) (Or.inl ⟨by rfl, ?_⟩) (by assumption) ?_
    rotate_left
    · (intro w hSw; (try dsimp only at hSw); go_simp; all_goals with_reducible rfl)
    (try simp only [Act.put, List.setIfInBounds_toArray, List.set_cons_zero, List.set_cons_succ])
    refine wpAnyH_take (i := 2) (v := ?_) (by rw [List.getElem?_toArray]; rfl) (by kernel_rfl) (by kernel_rfl) (by kernel_rfl) (by intro _ _ _ h; exact h) (Or.inl ⟨by rfl, ?_⟩) (by assumption) ?_
    rotate_left
    · (intro w hSw; (try dsimp only at hSw); go_simp; all_goals with_reducible rfl)
    (try simp only [Act.put, List.setIfInBounds_toArray, List.set_cons_zero, List.set_cons_succ])
    refine wpAnyH_take (i := 3) (v := ?_) (by rw [List.getElem?_toArray]; rfl) (by kernel_rfl) (by kernel_rfl) (by kernel_rfl) (by intro _ _ _ h; exact h) (Or.inl ⟨by rfl, ?_⟩) (by assumption) ?_
    rotate_left
    · (intro w hSw; (try dsimp only at hSw); go_simp; all_goals with_reducible rfl)
    (try simp only [Act.put, List.setIfInBounds_toArray, List.set_cons_zero, List.set_cons_succ])
    refine wpAnyH_take (i := 4) (v := ?_) (by rw [List.getElem?_toArray]; rfl) (by kernel_rfl) (by kernel_rfl) (by kernel_rfl) (by intro _ _ _ h; exact h) (Or.inl ⟨by rfl, ?_⟩) (by assumption) ?_
    rotate_left
    · (intro w hSw; (try dsimp only at hSw); go_simp; all_goals with_reducible rfl)
    (try simp only [Act.put, List.setIfInBounds_toArray, List.set_cons_zero, List.set_cons_succ])
    refine wpAnyH_take (i := 5) (v := ?_) (by rw [List.getElem?_toArray]; rfl) (by kernel_rfl) (by kernel_rfl) (by kernel_rfl) (by intro _ _ _ h; exact h) (Or.inl ⟨by rfl, ?_⟩) (by assumption) ?_
    rotate_left
    · (intro w hSw; (try dsimp only at hSw); go_simp; all_goals with_reducible rfl)
    (try simp only [Act.put, List.setIfInBounds_toArray, List.set_cons_zero, List.set_cons_succ])
    refine wpAnyH_take (i := 9) (v := ?_) (by rw [List.getElem?_toArray]; rfl) (by kernel_rfl) (by kernel_rfl) (by kernel_rfl) (by intro _ _ _ h; exact h) (Or.inl ⟨by rfl, ?_⟩) (by assumption) ?_
    rotate_left
    · (intro w hSw; (try dsimp only at hSw); go_simp; all_goals with_reducible rfl)
    (try simp only [Act.put, List.setIfInBounds_toArray, List.set_cons_zero, List.set_cons_succ])
    refine wpAnyH_take (i := 10) (v := ?_) (by rw [List.getElem?_toArray]; rfl) (by kernel_rfl) (by kernel_rfl) (by kernel_rfl) (by intro _ _ _ h; exact h) (Or.inl ⟨by rfl, ?_⟩) (by assumption) ?_
    rotate_left
    · (intro w hSw; (try dsimp only at hSw); go_simp; all_goals with_reducible rfl)
    (try simp only [Act.put, List.setIfInBounds_toArray, List.set_cons_zero, List.set_cons_succ])
    refine wpAnyH_take (i := 11) (v := ?_) (by rw [List.getElem?_toArray]; rfl) (by kernel_rfl) (by kernel_rfl) (by kernel_rfl) (by intro _ _ _ h; exact h) (Or.inl ⟨by rfl, ?_⟩) (by assumption) ?_
    rotate_left
    · (intro w hSw; (try dsimp only at hSw); go_simp; all_goals with_reducible rfl)
    (try simp only [Act.put, List.setIfInBounds_toArray, List.set_cons_zero, List.set_cons_succ])
    refine wpAnyH_take (i := 12) (v := ?_) (by rw [List.getElem?_toArray]; rfl) (by kernel_rfl) (by kernel_rfl) (by kernel_rfl) (by intro _ _ _ h; exact h) (Or.inl ⟨by rfl, ?_⟩) (by assumption) ?_
    rotate_left
    · (intro w hSw; (try dsimp only at hSw); go_simp; all_goals with_reducible rfl)
    (try simp only [Act.put, List.setIfInBounds_toArray, List.set_cons_zero, List.set_cons_succ])
    refine wpAnyH_take (i := 13) (v := ?_) (by rw [List.getElem?_toArray]; rfl) (by kernel_rfl) (by kernel_rfl) (by kernel_rfl) (by intro _ _ _ h; exact h) (Or.inl ⟨by rfl, ?_⟩) (by assumption) ?_
    rotate_left
    · (intro w hSw; (try dsimp only at hSw); go_simp; all_goals with_reducible rfl)
    (try simp only [Act.put, List.setIfInBounds_toArray, List.set_cons_zero, List.set_cons_succ])
    refine wpAnyH_take (i := 14) (v := ?_) (by rw [List.getElem?_toArray]; rfl) (by kernel_rfl) (by kernel_rfl) (by kernel_rfl) (by intro _ _ _ h; exact h) (Or.inl ⟨by rfl, ?_⟩) (by assumption) ?_
    rotate_left
    · (intro w hSw; (try dsimp only at hSw); go_simp; all_goals with_reducible rfl)
    (try simp only [Act.put, List.setIfInBounds_toArray, List.set_cons_zero, List.set_cons_succ])
    refine wpAnyH_ready (rs := [6, 19]) (by kernel_rfl) (by simp) ?_
    refine (AllReadyH.cons (by rw [List.getElem?_toArray]; rfl) (fun K hK => ?_) (AllReadyH.cons (by rw [List.getElem?_toArray]; rfl) (fun K hK => ?_) AllReadyH.nil))
    · go_simp
      refine (at_any a0 n0 c0 3 w.heap.size _ hn0 (by decide) (HC.out.below (B.trans (XB.mono B.size)))).mono ?_; rintro ee w' ⟨y3, rfl, y30, y31, rfl⟩
      (try go_wp2_with fail)
      refine hK.out _ _ ?_ (fun hHeld => ?_)
      · first | exact SK.out _ XB | exact SK.out _ (Below.drew (Below.refl _ _)) | exact keepC (keepC (SK.out _ XB) hbk) hbk
      clear hK K
      (try simp only [Act.put, List.setIfInBounds_toArray, List.set_cons_zero, List.set_cons_succ])
      refine wpAnyH_take (i := 7) (v := ?_) (by rw [List.getElem?_toArray]; rfl) (by kernel_rfl) (by kernel_rfl) (by kernel_rfl) (by intro _ _ _ h; exact h) (Or.inl ⟨by rfl, ?_⟩) (by assumption) ?_
      rotate_left
      · (intro w hSw; (try dsimp only at hSw); go_simp; all_goals with_reducible rfl)
      (try simp only [Act.put, List.setIfInBounds_toArray, List.set_cons_zero, List.set_cons_succ])
      refine wpAnyH_take (i := 8) (v := ?_) (by rw [List.getElem?_toArray]; rfl) (by kernel_rfl) (by kernel_rfl) (by kernel_rfl) (by intro _ _ _ h; exact h) (Or.inl ⟨by rfl, ?_⟩) (by assumption) ?_
      rotate_left
      · (intro w hSw; (try dsimp only at hSw); go_simp; all_goals with_reducible rfl)
      (try simp only [Act.put, List.setIfInBounds_toArray, List.set_cons_zero, List.set_cons_succ])
      refine wpAnyH_ready (rs := [15, 19]) (by kernel_rfl) (by simp) ?_
      refine (AllReadyH.cons (by rw [List.getElem?_toArray]; rfl) (fun K hK => ?_) (AllReadyH.cons (by rw [List.getElem?_toArray]; rfl) (fun K hK => ?_) AllReadyH.nil))
      · go_simp
        refine (at_any a0 n0 c0 4 w.heap.size _ hn0 (by decide) (HC.out.below (B.trans (XB.mono B.size)))).mono ?_; rintro ee w' ⟨y4, rfl, y40, y41, rfl⟩
        (try go_wp2_with fail)
        refine hK.out _ _ ?_ (fun hHeld => ?_)
        · first | exact SK.out _ XB | exact SK.out _ (Below.drew (Below.refl _ _)) | exact keepC (keepC (SK.out _ XB) hbk) hbk
        clear hK K
        (try simp only [Act.put, List.setIfInBounds_toArray, List.set_cons_zero, List.set_cons_succ])
        refine wpAnyH_take (i := 16) (v := ?_) (by rw [List.getElem?_toArray]; rfl) (by kernel_rfl) (by kernel_rfl) (by kernel_rfl) (by intro _ _ _ h; exact h) (Or.inl ⟨by rfl, ?_⟩) (by assumption) ?_
        rotate_left
        · (intro w hSw; (try dsimp only at hSw); go_simp; all_goals with_reducible rfl)
        (try simp only [Act.put, List.setIfInBounds_toArray, List.set_cons_zero, List.set_cons_succ])
        refine wpAnyH_take (i := 17) (v := ?_) (by rw [List.getElem?_toArray]; rfl) (by kernel_rfl) (by kernel_rfl) (by kernel_rfl) (by intro _ _ _ h; exact h) (Or.inl ⟨by rfl, ?_⟩) (by assumption) ?_
        rotate_left
        · (intro w hSw; (try dsimp only at hSw); go_simp; all_goals with_reducible rfl)
        (try simp only [Act.put, List.setIfInBounds_toArray, List.set_cons_zero, List.set_cons_succ])
        refine wpAnyH_take (i := 18) (v := ?_) (by rw [List.getElem?_toArray]; rfl) (by kernel_rfl) (by kernel_rfl) (by kernel_rfl) (by intro _ _ _ h; exact h) (Or.inl ⟨by rfl, ?_⟩) (by assumption) ?_
        rotate_left
        · (intro w hSw; (try dsimp only at hSw); go_simp; all_goals with_reducible rfl)
        (try simp only [Act.put, List.setIfInBounds_toArray, List.set_cons_zero, List.set_cons_succ])
        refine wpAnyH_ready (rs := [19]) (by kernel_rfl) (by simp) ?_
        refine (AllReadyH.cons (by rw [List.getElem?_toArray]; rfl) (fun K hK => ?_) AllReadyH.nil)
        go_simp
        (have K4 := Bx2.new vx (.int .i64 0) (.int .i64 0) 49); (have hkk := XB.size); (have hbk : b ≠ vx.heap.size := Nat.ne_of_lt (Nat.lt_of_lt_of_le S.1 XB.size)); (replace XB := XB.trans ((Below.nw vx (.cells #[.int .i64 0, .int .i64 0] 49)).mono XB.size)); (generalize vx.heap.size = kk at *); (generalize vx.alloc (.cells #[.int .i64 0, .int .i64 0] 49) = vx at *); (obtain ⟨kz0, kz1, kz2, kz3, kz4⟩ := id K4)
        refine hK.out _ _ ?_ (fun hHeld => ?_)
        · first | exact SK.out _ XB | exact SK.out _ (Below.drew (Below.refl _ _)) | exact keepC (keepC (SK.out _ XB) hbk) hbk
        clear hK K
        (try simp only [Act.put, List.setIfInBounds_toArray, List.set_cons_zero, List.set_cons_succ])
        refine wpAnyH_ready (rs := [20]) (by kernel_rfl) (by simp) ?_
        refine (AllReadyH.cons (by rw [List.getElem?_toArray]; rfl) (fun K hK => ?_) AllReadyH.nil)
        go_simp
        refine hK.out _ _ ?_ (fun hHeld => ?_)
        · first | exact SK.out _ XB | exact SK.out _ (Below.drew (Below.refl _ _)) | exact keepC (keepC (SK.out _ XB) hbk) hbk
        clear hK K
        (try simp only [Act.put, List.setIfInBounds_toArray, List.set_cons_zero, List.set_cons_succ])
        refine wpAnyH_done (by kernel_rfl) ?_ _
        go_wp2_with fail
        go_meet
        case rel => exact ⟨_, _, _, rfl, lo_at i1 i2 y30 y31, hi_at i1 i2 y40 y41, (K4.set0 _).set1 _, (XB.setCell (p := ⟨kk, 0, none⟩) hkk _).setCell (p := ⟨kk, 1, none⟩) hkk _⟩
      · go_simp
        (have K4 := Bx2.new vx (.int .i64 0) (.int .i64 0) 49); (have hkk := XB.size); (have hbk : b ≠ vx.heap.size := Nat.ne_of_lt (Nat.lt_of_lt_of_le S.1 XB.size)); (replace XB := XB.trans ((Below.nw vx (.cells #[.int .i64 0, .int .i64 0] 49)).mono XB.size)); (generalize vx.heap.size = kk at *); (generalize vx.alloc (.cells #[.int .i64 0, .int .i64 0] 49) = vx at *); (obtain ⟨kz0, kz1, kz2, kz3, kz4⟩ := id K4)
        refine hK.out _ _ ?_ (fun hHeld => ?_)
        · first | exact SK.out _ XB | exact SK.out _ (Below.drew (Below.refl _ _)) | exact keepC (keepC (SK.out _ XB) hbk) hbk
        clear hK K
        (try simp only [Act.put, List.setIfInBounds_toArray, List.set_cons_zero, List.set_cons_succ])
        refine wpAnyH_ready (rs := [15]) (by kernel_rfl) (by simp) ?_
        refine (AllReadyH.cons (by rw [List.getElem?_toArray]; rfl) (fun K hK => ?_) AllReadyH.nil)
        go_simp
        refine (at_any a0 n0 c0 4 w.heap.size _ hn0 (by decide) (HC.out.below (B.trans (XB.mono B.size)))).mono ?_; rintro ee w' ⟨y4, rfl, y40, y41, rfl⟩
        (try go_wp2_with fail)
        refine hK.out _ _ ?_ (fun hHeld => ?_)
        · first | exact SK.out _ XB | exact SK.out _ (Below.drew (Below.refl _ _)) | exact keepC (keepC (SK.out _ XB) hbk) hbk
        clear hK K
        (try simp only [Act.put, List.setIfInBounds_toArray, List.set_cons_zero, List.set_cons_succ])
        refine wpAnyH_take (i := 16) (v := ?_) (by rw [List.getElem?_toArray]; rfl) (by kernel_rfl) (by kernel_rfl) (by kernel_rfl) (by intro _ _ _ h; exact h) (Or.inl ⟨by rfl, ?_⟩) (by assumption) ?_
        rotate_left
        · (intro w hSw; (try dsimp only at hSw); go_simp; all_goals with_reducible rfl)
        (try simp only [Act.put, List.setIfInBounds_toArray, List.set_cons_zero, List.set_cons_succ])
        refine wpAnyH_take (i := 17) (v := ?_) (by rw [List.getElem?_toArray]; rfl) (by kernel_rfl) (by kernel_rfl) (by kernel_rfl) (by intro _ _ _ h; exact h) (Or.inl ⟨by rfl, ?_⟩) (by assumption) ?_
        rotate_left
        · (intro w hSw; (try dsimp only at hSw); go_simp; all_goals with_reducible rfl)
        (try simp only [Act.put, List.setIfInBounds_toArray, List.set_cons_zero, List.set_cons_succ])
        refine wpAnyH_take (i := 18) (v := ?_) (by rw [List.getElem?_toArray]; rfl) (by kernel_rfl) (by kernel_rfl) (by kernel_rfl) (by intro _ _ _ h; exact h) (Or.inl ⟨by rfl, ?_⟩) (by assumption) ?_
        rotate_left
        · (intro w hSw; (try dsimp only at hSw); go_simp; all_goals with_reducible rfl)
        (try simp only [Act.put, List.setIfInBounds_toArray, List.set_cons_zero, List.set_cons_succ])
        refine wpAnyH_ready (rs := [20]) (by kernel_rfl) (by simp) ?_
        refine (AllReadyH.cons (by rw [List.getElem?_toArray]; rfl) (fun K hK => ?_) AllReadyH.nil)
        go_simp
        refine hK.out _ _ ?_ (fun hHeld => ?_)
        · first | exact SK.out _ XB | exact SK.out _ (Below.drew (Below.refl _ _)) | exact keepC (keepC (SK.out _ XB) hbk) hbk
        clear hK K
        (try simp only [Act.put, List.setIfInBounds_toArray, List.set_cons_zero, List.set_cons_succ])
        refine wpAnyH_done (by kernel_rfl) ?_ _
        go_wp2_with fail
        go_meet
        case rel => exact ⟨_, _, _, rfl, lo_at i1 i2 y30 y31, hi_at i1 i2 y40 y41, (K4.set0 _).set1 _, (XB.setCell (p := ⟨kk, 0, none⟩) hkk _).setCell (p := ⟨kk, 1, none⟩) hkk _⟩
    · go_simp
      (have K4 := Bx2.new vx (.int .i64 0) (.int .i64 0) 49); (have hkk := XB.size); (have hbk : b ≠ vx.heap.size := Nat.ne_of_lt (Nat.lt_of_lt_of_le S.1 XB.size)); (replace XB := XB.trans ((Below.nw vx (.cells #[.int .i64 0, .int .i64 0] 49)).mono XB.size)); (generalize vx.heap.size = kk at *); (generalize vx.alloc (.cells #[.int .i64 0, .int .i64 0] 49) = vx at *); (obtain ⟨kz0, kz1, kz2, kz3, kz4⟩ := id K4)
      refine hK.out _ _ ?_ (fun hHeld => ?_)
      · first | exact SK.out _ XB | exact SK.out _ (Below.drew (Below.refl _ _)) | exact keepC (keepC (SK.out _ XB) hbk) hbk
      clear hK K
      (try simp only [Act.put, List.setIfInBounds_toArray, List.set_cons_zero, List.set_cons_succ])
      refine wpAnyH_ready (rs := [6]) (by kernel_rfl) (by simp) ?_
      refine (AllReadyH.cons (by rw [List.getElem?_toArray]; rfl) (fun K hK => ?_) AllReadyH.nil)
      go_simp
      refine (at_any a0 n0 c0 3 w.heap.size _ hn0 (by decide) (HC.out.below (B.trans (XB.mono B.size)))).mono ?_; rintro ee w' ⟨y3, rfl, y30, y31, rfl⟩
      (try go_wp2_with fail)
      refine hK.out _ _ ?_ (fun hHeld => ?_)
      · first | exact SK.out _ XB | exact SK.out _ (Below.drew (Below.refl _ _)) | exact keepC (keepC (SK.out _ XB) hbk) hbk
      clear hK K
      (try simp only [Act.put, List.setIfInBounds_toArray, List.set_cons_zero, List.set_cons_succ])
      refine wpAnyH_take (i := 7) (v := ?_) (by rw [List.getElem?_toArray]; rfl) (by kernel_rfl) (by kernel_rfl) (by kernel_rfl) (by intro _ _ _ h; exact h) (Or.inl ⟨by rfl, ?_⟩) (by assumption) ?_
      rotate_left
      · (intro w hSw; (try dsimp only at hSw); go_simp; all_goals with_reducible rfl)
      (try simp only [Act.put, List.setIfInBounds_toArray, List.set_cons_zero, List.set_cons_succ])
      refine wpAnyH_take (i := 8) (v := ?_) (by rw [List.getElem?_toArray]; rfl) (by kernel_rfl) (by kernel_rfl) (by kernel_rfl) (by intro _ _ _ h; exact h) (Or.inl ⟨by rfl, ?_⟩) (by assumption) ?_
      rotate_left
      · (intro w hSw; (try dsimp only at hSw); go_simp; all_goals with_reducible rfl)
      (try simp only [Act.put, List.setIfInBounds_toArray, List.set_cons_zero, List.set_cons_succ])
      refine wpAnyH_ready (rs := [15]) (by kernel_rfl) (by simp) ?_
      refine (AllReadyH.cons (by rw [List.getElem?_toArray]; rfl) (fun K hK => ?_) AllReadyH.nil)
      go_simp
      refine (at_any a0 n0 c0 4 w.heap.size _ hn0 (by decide) (HC.out.below (B.trans (XB.mono B.size)))).mono ?_; rintro ee w' ⟨y4, rfl, y40, y41, rfl⟩
      (try go_wp2_with fail)
      refine hK.out _ _ ?_ (fun hHeld => ?_)
      · first | exact SK.out _ XB | exact SK.out _ (Below.drew (Below.refl _ _)) | exact keepC (keepC (SK.out _ XB) hbk) hbk
      clear hK K
      (try simp only [Act.put, List.setIfInBounds_toArray, List.set_cons_zero, List.set_cons_succ])
      refine wpAnyH_take (i := 16) (v := ?_) (by rw [List.getElem?_toArray]; rfl) (by kernel_rfl) (by kernel_rfl) (by kernel_rfl) (by intro _ _ _ h; exact h) (Or.inl ⟨by rfl, ?_⟩) (by assumption) ?_
      rotate_left
      · (intro w hSw; (try dsimp only at hSw); go_simp; all_goals with_reducible rfl)
      (try simp only [Act.put, List.setIfInBounds_toArray, List.set_cons_zero, List.set_cons_succ])
      refine wpAnyH_take (i := 17) (v := ?_) (by rw [List.getElem?_toArray]; rfl) (by kernel_rfl) (by kernel_rfl) (by kernel_rfl) (by intro _ _ _ h; exact h) (Or.inl ⟨by rfl, ?_⟩) (by assumption) ?_
      rotate_left
      · (intro w hSw; (try dsimp only at hSw); go_simp; all_goals with_reducible rfl)
      (try simp only [Act.put, List.setIfInBounds_toArray, List.set_cons_zero, List.set_cons_succ])
      refine wpAnyH_take (i := 18) (v := ?_) (by rw [List.getElem?_toArray]; rfl) (by kernel_rfl) (by kernel_rfl) (by kernel_rfl) (by intro _ _ _ h; exact h) (Or.inl ⟨by rfl, ?_⟩) (by assumption) ?_
      rotate_left
      · (intro w hSw; (try dsimp only at hSw); go_simp; all_goals with_reducible rfl)
      (try simp only [Act.put, List.setIfInBounds_toArray, List.set_cons_zero, List.set_cons_succ])
      refine wpAnyH_ready (rs := [20]) (by kernel_rfl) (by simp) ?_
      refine (AllReadyH.cons (by rw [List.getElem?_toArray]; rfl) (fun K hK => ?_) AllReadyH.nil)
      go_simp
      refine hK.out _ _ ?_ (fun hHeld => ?_)
      · first | exact SK.out _ XB | exact SK.out _ (Below.drew (Below.refl _ _)) | exact keepC (keepC (SK.out _ XB) hbk) hbk
      clear hK K
      (try simp only [Act.put, List.setIfInBounds_toArray, List.set_cons_zero, List.set_cons_succ])
      refine wpAnyH_done (by kernel_rfl) ?_ _
      go_wp2_with fail
      go_meet
      case rel => exact ⟨_, _, _, rfl, lo_at i1 i2 y30 y31, hi_at i1 i2 y40 y41, (K4.set0 _).set1 _, (XB.setCell (p := ⟨kk, 0, none⟩) hkk _).setCell (p := ⟨kk, 1, none⟩) hkk _⟩
  case rest =>
    obtain ⟨kA, al, ah, rfl, ga1, ga2, KA, nl⟩ := hcut
    clear SK cb
    replace O := O.below nl; replace KL := KL.below nl; replace KH := KH.below nl; replace S := S.below nl S.1; replace E := E.below nl; replace E1 := E1.below nl; replace B := B.trans (nl.mono B.size); clear nl
    generalize wc = v5 at *
    go_upto_region 13 with fail
    have SK : Hid (∀ w', Below v5.heap.size v5 w' → w'.cell? ⟨b, off + j * 2, none⟩ = some (.int .i64 (f j).1)) := fun w' hw => ((S.below hw S.1).2 j hjm).1
    have cb := S.1
    go_cut [13] (fun sa wx => ∃ (kB : Nat) (bl bh : Int), sa = .pointer (some ⟨kB, 0, none⟩) ∧ bl ≤ (f j).1 ∧ (f j).1 ≤ bh ∧ Bx2 wx kB (.int .i64 bl) (.int .i64 bh) ∧ Below v5.heap.size v5 wx)
    case first => as_aux_lemma =>
      refine wp_region_held_drew (S := (fun w' => w'.cell? ⟨b, off + j * 2, none⟩ = some (.int .i64 (f j).1))) (by kernel_rfl) ?_ (fun hHeld => ?_)
      · first | exact SK.out _ XB | exact SK.out _ (Below.drew (Below.refl _ _)) | exact keepC (keepC (SK.out _ XB) hbk) hbk
      have XB : Below v5.heap.size v5 v5.drew := Below.drew (Below.refl _ _)
      generalize v5.drew = vx at *
      refine wpAnyH_take (i := 0) (v := ?_) (by rw [List.getElem?_toArray]; rfl) (by kernel_rfl) (by kernel_rfl) (by kernel_rfl) (by intro _ _ _ h; exact h) (Or.inl ⟨by rfl, ?_⟩) (by assumption) ?_
      rotate_left
      · (intro w hSw; (try dsimp only at hSw); go_simp; all_goals with_reducible rfl)
      (try simp only [Act.put, List.setIfInBounds_toArray, List.set_cons_zero, List.set_cons_succ])
      refine wpAnyH_take (i := 1) (v := ?_) (by rw [List.getElem?_toArray]; rfl) (by kernel_rfl) (by kernel_rfl) (by kernel_rfl) (by intro _ _ _ h; exact h) (Or.inl ⟨by rfl, ?_⟩) (by assumption) ?_
      rotate_left
      · (intro w hSw; (try dsimp only at hSw); go_simp; all_goals with_reducible rfl)
      (try simp only [Act.put, List.setIfInBounds_toArray, List.set_cons_zero, List.set_cons_succ])
      refine wpAnyH_take (i := 2) (v := ?_) (by rw [List.getElem?_toArray]; rfl) (by kernel_rfl) (by kernel_rfl) (by kernel_rfl) (by intro _ _ _ h; exact h) (Or.inl ⟨by rfl, ?_⟩) (by assumption) ?_
      rotate_left
      · (intro w hSw; (try dsimp only at hSw); go_simp; all_goals with_reducible rfl)
      (try simp only [Act.put, List.setIfInBounds_toArray, List.set_cons_zero, List.set_cons_succ])
      refine wpAnyH_take (i := 3) (v := ?_) (by rw [List.getElem?_toArray]; rfl) (by kernel_rfl) (by kernel_rfl) (by kernel_rfl) (by intro _ _ _ h; exact h) (Or.inl ⟨by rfl, ?_⟩) (by assumption) ?_
      rotate_left
      · (intro w hSw; (try dsimp only at hSw); go_simp; all_goals with_reducible rfl)
      (try simp only [Act.put, List.setIfInBounds_toArray, List.set_cons_zero, List.set_cons_succ])
      refine wpAnyH_take (i := 4) (v := ?_) (by rw [List.getElem?_toArray]; rfl) (by kernel_rfl) (by kernel_rfl) (by kernel_rfl) (by intro _ _ _ h; exact h) (Or.inl ⟨by rfl, ?_⟩) (by assumption) ?_
      rotate_left
      · (intro w hSw; (try dsimp only at hSw); go_simp; all_goals with_reducible rfl)
      (try simp only [Act.put, List.setIfInBounds_toArray, List.set_cons_zero, List.set_cons_succ])
      refine wpAnyH_take (i := 5) (v := ?_) (by rw [List.getElem?_toArray]; rfl) (by kernel_rfl) (by kernel_rfl) (by kernel_rfl) (by intro _ _ _ h; exact h) (Or.inl ⟨by rfl, ?_⟩) (by assumption) ?_
      rotate_left
      · (intro w hSw; (try dsimp only at hSw); go_simp; all_goals with_reducible rfl)
      (try simp only [Act.put, List.setIfInBounds_toArray, List.set_cons_zero, List.set_cons_succ])
      refine wpAnyH_take (i := 9) (v := ?_) (by rw [List.getElem?_toArray]; rfl) (by kernel_rfl) (by kernel_rfl) (by kernel_rfl) (by intro _ _ _ h; exact h) (Or.inl ⟨by rfl, ?_⟩) (by assumption) ?_
      rotate_left
      · (intro w hSw; (try dsimp only at hSw); go_simp; all_goals with_reducible rfl)
      (try simp only [Act.put, List.setIfInBounds_toArray, List.set_cons_zero, List.set_cons_succ])
      refine wpAnyH_take (i := 10) (v := ?_) (by rw [List.getElem?_toArray]; rfl) (by kernel_rfl) (by kernel_rfl) (by kernel_rfl) (by intro _ _ _ h; exact h) (Or.inl ⟨by rfl, ?_⟩) (by assumption) ?_
      rotate_left
      · (intro w hSw; (try dsimp only at hSw); go_simp; all_goals with_reducible rfl)
      (try simp only [Act.put, List.setIfInBounds_toArray, List.set_cons_zero, List.set_cons_succ])
      refine wpAnyH_take (i := 11) (v := ?_) (by rw [List.getElem?_toArray]; rfl) (by kernel_rfl) (by kernel_rfl) (by kernel_rfl) (by intro _ _ _ h; exact h) (Or.inl ⟨by rfl, ?_⟩) (by assumption) ?_
      rotate_left
      · (intro w hSw; (try dsimp only at hSw); go_simp; all_goals with_reducible rfl)
      (try simp only [Act.put, List.setIfInBounds_toArray, List.set_cons_zero, List.set_cons_succ])
      refine wpAnyH_take (i := 12) (v := ?_) (by rw [List.getElem?_toArray]; rfl) (by kernel_rfl) (by kernel_rfl) (by kernel_rfl) (by intro _ _ _ h; exact h) (Or.inl ⟨by rfl, ?_⟩) (by assumption) ?_
      rotate_left
      · (intro w hSw; (try dsimp only at hSw); go_simp; all_goals with_reducible rfl)
      (try simp only [Act.put, List.setIfInBounds_toArray, List.set_cons_zero, List.set_cons_succ])
      refine wpAnyH_take (i := 13) (v := ?_) (by rw [List.getElem?_toArray]; rfl) (by kernel_rfl) (by kernel_rfl) (by kernel_rfl) (by intro _ _ _ h; exact h) (Or.inl ⟨by rfl, ?_⟩) (by assumption) ?_
      rotate_left
      · (intro w hSw; (try dsimp only at hSw); go_simp; all_goals with_reducible rfl)
      (try simp only [Act.put, List.setIfInBounds_toArray, List.set_cons_zero, List.set_cons_succ])
      refine wpAnyH_take (i := 14) (v := ?_) (by rw [List.getElem?_toArray]; rfl) (by kernel_rfl) (by kernel_rfl) (by kernel_rfl) (by intro _ _ _ h; exact h) (Or.inl ⟨by rfl, ?_⟩) (by assumption) ?_
      rotate_left
      · (intro w hSw; (try dsimp only at hSw); go_simp; all_goals with_reducible rfl)
      (try simp only [Act.put, List.setIfInBounds_toArray, List.set_cons_zero, List.set_cons_succ])
      refine wpAnyH_ready (rs := [6, 19]) (by kernel_rfl) (by simp) ?_
      refine (AllReadyH.cons (by rw [List.getElem?_toArray]; rfl) (fun K hK => ?_) (AllReadyH.cons (by rw [List.getElem?_toArray]; rfl) (fun K hK => ?_) AllReadyH.nil))
      · go_simp
        refine (at_any a0 n0 c0 5 w.heap.size _ hn0 (by decide) (HC.out.below (B.trans (XB.mono B.size)))).mono ?_; rintro ee w' ⟨y3, rfl, y30, y31, rfl⟩
        (try go_wp2_with fail)
        refine hK.out _ _ ?_ (fun hHeld => ?_)
        · first | exact SK.out _ XB | exact SK.out _ (Below.drew (Below.refl _ _)) | exact keepC (keepC (SK.out _ XB) hbk) hbk
        clear hK K
        (try simp only [Act.put, List.setIfInBounds_toArray, List.set_cons_zero, List.set_cons_succ])
        refine wpAnyH_take (i := 7) (v := ?_) (by rw [List.getElem?_toArray]; rfl) (by kernel_rfl) (by kernel_rfl) (by kernel_rfl) (by intro _ _ _ h; exact h) (Or.inl ⟨by rfl, ?_⟩) (by assumption) ?_
        rotate_left
        · (intro w hSw; (try dsimp only at hSw); go_simp; all_goals with_reducible rfl)
        (try simp only [Act.put, List.setIfInBounds_toArray, List.set_cons_zero, List.set_cons_succ])
        refine wpAnyH_take (i := 8) (v := ?_) (by rw [List.getElem?_toArray]; rfl) (by kernel_rfl) (by kernel_rfl) (by kernel_rfl) (by intro _ _ _ h; exact h) (Or.inl ⟨by rfl, ?_⟩) (by assumption) ?_
        rotate_left
        · (intro w hSw; (try dsimp only at hSw); go_simp; all_goals with_reducible rfl)
        (try simp only [Act.put, List.setIfInBounds_toArray, List.set_cons_zero, List.set_cons_succ])
        refine wpAnyH_ready (rs := [15, 19]) (by kernel_rfl) (by simp) ?_
        refine (AllReadyH.cons (by rw [List.getElem?_toArray]; rfl) (fun K hK => ?_) (AllReadyH.cons (by rw [List.getElem?_toArray]; rfl) (fun K hK => ?_) AllReadyH.nil))
        · go_simp
          refine (at_any a0 n0 c0 6 w.heap.size _ hn0 (by decide) (HC.out.below (B.trans (XB.mono B.size)))).mono ?_; rintro ee w' ⟨y4, rfl, y40, y41, rfl⟩
          (try go_wp2_with fail)
          refine hK.out _ _ ?_ (fun hHeld => ?_)
          · first | exact SK.out _ XB | exact SK.out _ (Below.drew (Below.refl _ _)) | exact keepC (keepC (SK.out _ XB) hbk) hbk
          clear hK K
          (try simp only [Act.put, List.setIfInBounds_toArray, List.set_cons_zero, List.set_cons_succ])
          refine wpAnyH_take (i := 16) (v := ?_) (by rw [List.getElem?_toArray]; rfl) (by kernel_rfl) (by kernel_rfl) (by kernel_rfl) (by intro _ _ _ h; exact h) (Or.inl ⟨by rfl, ?_⟩) (by assumption) ?_
          rotate_left
          · (intro w hSw; (try dsimp only at hSw); go_simp; all_goals with_reducible rfl)
          (try simp only [Act.put, List.setIfInBounds_toArray, List.set_cons_zero, List.set_cons_succ])
          refine wpAnyH_take (i := 17) (v := ?_) (by rw [List.getElem?_toArray]; rfl) (by kernel_rfl) (by kernel_rfl) (by kernel_rfl) (by intro _ _ _ h; exact h) (Or.inl ⟨by rfl, ?_⟩) (by assumption) ?_
          rotate_left
          · (intro w hSw; (try dsimp only at hSw); go_simp; all_goals with_reducible rfl)
          (try simp only [Act.put, List.setIfInBounds_toArray, List.set_cons_zero, List.set_cons_succ])
          refine wpAnyH_take (i := 18) (v := ?_) (by rw [List.getElem?_toArray]; rfl) (by kernel_rfl) (by kernel_rfl) (by kernel_rfl) (by intro _ _ _ h; exact h) (Or.inl ⟨by rfl, ?_⟩) (by assumption) ?_
          rotate_left
          · (intro w hSw; (try dsimp only at hSw); go_simp; all_goals with_reducible rfl)
          (try simp only [Act.put, List.setIfInBounds_toArray, List.set_cons_zero, List.set_cons_succ])
          refine wpAnyH_ready (rs := [19]) (by kernel_rfl) (by simp) ?_
          refine (AllReadyH.cons (by rw [List.getElem?_toArray]; rfl) (fun K hK => ?_) AllReadyH.nil)
          go_simp
          (have K4 := Bx2.new vx (.int .i64 0) (.int .i64 0) 49); (have hkk := XB.size); (have hbk : b ≠ vx.heap.size := Nat.ne_of_lt (Nat.lt_of_lt_of_le S.1 XB.size)); (replace XB := XB.trans ((Below.nw vx (.cells #[.int .i64 0, .int .i64 0] 49)).mono XB.size)); (generalize vx.heap.size = kk at *); (generalize vx.alloc (.cells #[.int .i64 0, .int .i64 0] 49) = vx at *); (obtain ⟨kz0, kz1, kz2, kz3, kz4⟩ := id K4)
          refine hK.out _ _ ?_ (fun hHeld => ?_)
          · first | exact SK.out _ XB | exact SK.out _ (Below.drew (Below.refl _ _)) | exact keepC (keepC (SK.out _ XB) hbk) hbk
          clear hK K
          (try simp only [Act.put, List.setIfInBounds_toArray, List.set_cons_zero, List.set_cons_succ])
          refine wpAnyH_ready (rs := [20]) (by kernel_rfl) (by simp) ?_
          refine (AllReadyH.cons (by rw [List.getElem?_toArray]; rfl) (fun K hK => ?_) AllReadyH.nil)
          go_simp
          refine hK.out _ _ ?_ (fun hHeld => ?_)
          · first | exact SK.out _ XB | exact SK.out _ (Below.drew (Below.refl _ _)) | exact keepC (keepC (SK.out _ XB) hbk) hbk
          clear hK K
          (try simp only [Act.put, List.setIfInBounds_toArray, List.set_cons_zero, List.set_cons_succ])
          refine wpAnyH_done (by kernel_rfl) ?_ _
          go_wp2_with fail
          go_meet
          case rel => exact ⟨_, _, _, rfl, lo_at j1 j2 y30 y31, hi_at j1 j2 y40 y41, (K4.set0 _).set1 _, (XB.setCell (p := ⟨kk, 0, none⟩) hkk _).setCell (p := ⟨kk, 1, none⟩) hkk _⟩
        · go_simp
          (have K4 := Bx2.new vx (.int .i64 0) (.int .i64 0) 49); (have hkk := XB.size); (have hbk : b ≠ vx.heap.size := Nat.ne_of_lt (Nat.lt_of_lt_of_le S.1 XB.size)); (replace XB := XB.trans ((Below.nw vx (.cells #[.int .i64 0, .int .i64 0] 49)).mono XB.size)); (generalize vx.heap.size = kk at *); (generalize vx.alloc (.cells #[.int .i64 0, .int .i64 0] 49) = vx at *); (obtain ⟨kz0, kz1, kz2, kz3, kz4⟩ := id K4)
          refine hK.out _ _ ?_ (fun hHeld => ?_)
          · first | exact SK.out _ XB | exact SK.out _ (Below.drew (Below.refl _ _)) | exact keepC (keepC (SK.out _ XB) hbk) hbk
          clear hK K
          (try simp only [Act.put, List.setIfInBounds_toArray, List.set_cons_zero, List.set_cons_succ])
          refine wpAnyH_ready (rs := [15]) (by kernel_rfl) (by simp) ?_
          refine (AllReadyH.cons (by rw [List.getElem?_toArray]; rfl) (fun K hK => ?_) AllReadyH.nil)
          go_simp
          refine (at_any a0 n0 c0 6 w.heap.size _ hn0 (by decide) (HC.out.below (B.trans (XB.mono B.size)))).mono ?_; rintro ee w' ⟨y4, rfl, y40, y41, rfl⟩
          (try go_wp2_with fail)
          refine hK.out _ _ ?_ (fun hHeld => ?_)
          · first | exact SK.out _ XB | exact SK.out _ (Below.drew (Below.refl _ _)) | exact keepC (keepC (SK.out _ XB) hbk) hbk
          clear hK K
          (try simp only [Act.put, List.setIfInBounds_toArray, List.set_cons_zero, List.set_cons_succ])
          refine wpAnyH_take (i := 16) (v := ?_) (by rw [List.getElem?_toArray]; rfl) (by kernel_rfl) (by kernel_rfl) (by kernel_rfl) (by intro _ _ _ h; exact h) (Or.inl ⟨by rfl, ?_⟩) (by assumption) ?_
          rotate_left
          · (intro w hSw; (try dsimp only at hSw); go_simp; all_goals with_reducible rfl)
          (try simp only [Act.put, List.setIfInBounds_toArray, List.set_cons_zero, List.set_cons_succ])
          refine wpAnyH_take (i := 17) (v := ?_) (by rw [List.getElem?_toArray]; rfl) (by kernel_rfl) (by kernel_rfl) (by kernel_rfl) (by intro _ _ _ h; exact h) (Or.inl ⟨by rfl, ?_⟩) (by assumption) ?_
          rotate_left
          · (intro w hSw; (try dsimp only at hSw); go_simp; all_goals with_reducible rfl)
          (try simp only [Act.put, List.setIfInBounds_toArray, List.set_cons_zero, List.set_cons_succ])
          refine wpAnyH_take (i := 18) (v := ?_) (by rw [List.getElem?_toArray]; rfl) (by kernel_rfl) (by kernel_rfl) (by kernel_rfl) (by intro _ _ _ h; exact h) (Or.inl ⟨by rfl, ?_⟩) (by assumption) ?_
          rotate_left
          · (intro w hSw; (try dsimp only at hSw); go_simp; all_goals with_reducible rfl)
          (try simp only [Act.put, List.setIfInBounds_toArray, List.set_cons_zero, List.set_cons_succ])
          refine wpAnyH_ready (rs := [20]) (by kernel_rfl) (by simp) ?_
          refine (AllReadyH.cons (by rw [List.getElem?_toArray]; rfl) (fun K hK => ?_) AllReadyH.nil)
          go_simp
          refine hK.out _ _ ?_ (fun hHeld => ?_)
          · first | exact SK.out _ XB | exact SK.out _ (Below.drew (Below.refl _ _)) | exact keepC (keepC (SK.out _ XB) hbk) hbk
          clear hK K
          (try simp only [Act.put, List.setIfInBounds_toArray, List.set_cons_zero, List.set_cons_succ])
          refine wpAnyH_done (by kernel_rfl) ?_ _
          go_wp2_with fail
          go_meet
          case rel => exact ⟨_, _, _, rfl, lo_at j1 j2 y30 y31, hi_at j1 j2 y40 y41, (K4.set0 _).set1 _, (XB.setCell (p := ⟨kk, 0, none⟩) hkk _).setCell (p := ⟨kk, 1, none⟩) hkk _⟩
      · go_simp
        (have K4 := Bx2.new vx (.int .i64 0) (.int .i64 0) 49); (have hkk := XB.size); (have hbk : b ≠ vx.heap.size := Nat.ne_of_lt (Nat.lt_of_lt_of_le S.1 XB.size)); (replace XB := XB.trans ((Below.nw vx (.cells #[.int .i64 0, .int .i64 0] 49)).mono XB.size)); (generalize vx.heap.size = kk at *); (generalize vx.alloc (.cells #[.int .i64 0, .int .i64 0] 49) = vx at *); (obtain ⟨kz0, kz1, kz2, kz3, kz4⟩ := id K4)
        refine hK.out _ _ ?_ (fun hHeld => ?_)
        · first | exact SK.out _ XB | exact SK.out _ (Below.drew (Below.refl _ _)) | exact keepC (keepC (SK.out _ XB) hbk) hbk
        clear hK K
        (try simp only [Act.put, List.setIfInBounds_toArray, List.set_cons_zero, List.set_cons_succ])
        refine wpAnyH_ready (rs := [6]) (by kernel_rfl) (by simp) ?_
        refine (AllReadyH.cons (by rw [List.getElem?_toArray]; rfl) (fun K hK => ?_) AllReadyH.nil)
        go_simp
        refine (at_any a0 n0 c0 5 w.heap.size _ hn0 (by decide) (HC.out.below (B.trans (XB.mono B.size)))).mono ?_; rintro ee w' ⟨y3, rfl, y30, y31, rfl⟩
        (try go_wp2_with fail)
        refine hK.out _ _ ?_ (fun hHeld => ?_)
        · first | exact SK.out _ XB | exact SK.out _ (Below.drew (Below.refl _ _)) | exact keepC (keepC (SK.out _ XB) hbk) hbk
        clear hK K
        (try simp only [Act.put, List.setIfInBounds_toArray, List.set_cons_zero, List.set_cons_succ])
        refine wpAnyH_take (i := 7) (v := ?_) (by rw [List.getElem?_toArray]; rfl) (by kernel_rfl) (by kernel_rfl) (by kernel_rfl) (by intro _ _ _ h; exact h) (Or.inl ⟨by rfl, ?_⟩) (by assumption) ?_
        rotate_left
        · (intro w hSw; (try dsimp only at hSw); go_simp; all_goals with_reducible rfl)
        (try simp only [Act.put, List.setIfInBounds_toArray, List.set_cons_zero, List.set_cons_succ])
        refine wpAnyH_take (i := 8) (v := ?_) (by rw [List.getElem?_toArray]; rfl) (by kernel_rfl) (by kernel_rfl) (by kernel_rfl) (by intro _ _ _ h; exact h) (Or.inl ⟨by rfl, ?_⟩) (by assumption) ?_
        rotate_left
        · (intro w hSw; (try dsimp only at hSw); go_simp; all_goals with_reducible rfl)
        (try simp only [Act.put, List.setIfInBounds_toArray, List.set_cons_zero, List.set_cons_succ])
        refine wpAnyH_ready (rs := [15]) (by kernel_rfl) (by simp) ?_
        refine (AllReadyH.cons (by rw [List.getElem?_toArray]; rfl) (fun K hK => ?_) AllReadyH.nil)
        go_simp
        refine (at_any a0 n0 c0 6 w.heap.size _ hn0 (by decide) (HC.out.below (B.trans (XB.mono B.size)))).mono ?_; rintro ee w' ⟨y4, rfl, y40, y41, rfl⟩
        (try go_wp2_with fail)
        refine hK.out _ _ ?_ (fun hHeld => ?_)
        · first | exact SK.out _ XB | exact SK.out _ (Below.drew (Below.refl _ _)) | exact keepC (keepC (SK.out _ XB) hbk) hbk
        clear hK K
        (try simp only [Act.put, List.setIfInBounds_toArray, List.set_cons_zero, List.set_cons_succ])
        refine wpAnyH_take (i := 16) (v := ?_) (by rw [List.getElem?_toArray]; rfl) (by kernel_rfl) (by kernel_rfl) (by kernel_rfl) (by intro _ _ _ h; exact h) (Or.inl ⟨by rfl, ?_⟩) (by assumption) ?_
        rotate_left
        · (intro w hSw; (try dsimp only at hSw); go_simp; all_goals with_reducible rfl)
        (try simp only [Act.put, List.setIfInBounds_toArray, List.set_cons_zero, List.set_cons_succ])
        refine wpAnyH_take (i := 17) (v := ?_) (by rw [List.getElem?_toArray]; rfl) (by kernel_rfl) (by kernel_rfl) (by kernel_rfl) (by intro _ _ _ h; exact h) (Or.inl ⟨by rfl, ?_⟩) (by assumption) ?_
        rotate_left
        · (intro w hSw; (try dsimp only at hSw); go_simp; all_goals with_reducible rfl)
        (try simp only [Act.put, List.setIfInBounds_toArray, List.set_cons_zero, List.set_cons_succ])
        refine wpAnyH_take (i := 18) (v := ?_) (by rw [List.getElem?_toArray]; rfl) (by kernel_rfl) (by kernel_rfl) (by kernel_rfl) (by intro _ _ _ h; exact h) (Or.inl ⟨by rfl, ?_⟩) (by assumption) ?_
        rotate_left
        · (intro w hSw; (try dsimp only at hSw); go_simp; all_goals with_reducible rfl)
        (try simp only [Act.put, List.setIfInBounds_toArray, List.set_cons_zero, List.set_cons_succ])
        refine wpAnyH_ready (rs := [20]) (by kernel_rfl) (by simp) ?_
        refine (AllReadyH.cons (by rw [List.getElem?_toArray]; rfl) (fun K hK => ?_) AllReadyH.nil)
        go_simp
        refine hK.out _ _ ?_ (fun hHeld => ?_)
        · first | exact SK.out _ XB | exact SK.out _ (Below.drew (Below.refl _ _)) | exact keepC (keepC (SK.out _ XB) hbk) hbk
        clear hK K
        (try simp only [Act.put, List.setIfInBounds_toArray, List.set_cons_zero, List.set_cons_succ])
        refine wpAnyH_done (by kernel_rfl) ?_ _
        go_wp2_with fail
        go_meet
        case rel => exact ⟨_, _, _, rfl, lo_at j1 j2 y30 y31, hi_at j1 j2 y40 y41, (K4.set0 _).set1 _, (XB.setCell (p := ⟨kk, 0, none⟩) hkk _).setCell (p := ⟨kk, 1, none⟩) hkk _⟩
    case rest =>
      obtain ⟨kB, bl, bh, rfl, gb1, gb2, KB, nl⟩ := hcut
      clear SK cb
      replace KA := KA.below nl
      replace O := O.below nl; replace KL := KL.below nl; replace KH := KH.below nl; replace S := S.below nl S.1; replace E := E.below nl; replace E1 := E1.below nl; replace B := B.trans (nl.mono B.size); clear nl
      generalize wc = v6 at *
      obtain ⟨mp1, mp2, mp3, mp4⟩ := HMP.out
      have hnb := not_broken (n := x) (d := y) (ca := (f i).2) (cb := (f j).2) ⟨ga1, ga2⟩ ⟨gb1, gb2⟩ mp4 mp3 mp2
      have CB := fun w' E' E1' => implRateBroken_any x y al ah (f i).2 bl bh (f j).2 s s' w' hst E' E1'
      rw [hnb] at CB
      have HM1 : Hid (0 ≤ (f j).2 - (f i).2) := mp1
      clear hnb mp1 mp2 mp3 mp4 HMP ga1 ga2 gb1 gb2
      have SK : Hid (∀ w', Below v6.heap.size v6 w' → (w'.cell? ⟨kO, 0, none⟩ = some (.int .i64 x) ∧ w'.cell? ⟨kO, 1, none⟩ = some (.int .i64 y) ∧ w'.cell? ⟨kA, 0, none⟩ = some (.int .i64 al) ∧ w'.cell? ⟨kA, 1, none⟩ = some (.int .i64 ah) ∧ w'.cell? ⟨b, off + i * 2 + 1, none⟩ = some (.int .i64 (f i).2) ∧ w'.cell? ⟨kB, 0, none⟩ = some (.int .i64 bl) ∧ w'.cell? ⟨kB, 1, none⟩ = some (.int .i64 bh) ∧ w'.cell? ⟨b, off + j * 2 + 1, none⟩ = some (.int .i64 (f j).2))) := fun w' hw => ⟨(O.below hw).2.1, (O.below hw).2.2.1, (KA.below hw).2.1, (KA.below hw).2.2.1, ((S.below hw S.1).2 i him).2, (KB.below hw).2.1, (KB.below hw).2.2.1, ((S.below hw S.1).2 j hjm).2⟩
      have cb := S.1
      go_upto_region 14 with fail
      go_cut [124] (fun sa wx => sa = .bool false ∧ Below v6.heap.size v6 wx)
      case first => as_aux_lemma =>
        refine wp_region_held_drew (S := (fun w' => w'.cell? ⟨kO, 0, none⟩ = some (.int .i64 x) ∧ w'.cell? ⟨kO, 1, none⟩ = some (.int .i64 y) ∧ w'.cell? ⟨kA, 0, none⟩ = some (.int .i64 al) ∧ w'.cell? ⟨kA, 1, none⟩ = some (.int .i64 ah) ∧ w'.cell? ⟨b, off + i * 2 + 1, none⟩ = some (.int .i64 (f i).2) ∧ w'.cell? ⟨kB, 0, none⟩ = some (.int .i64 bl) ∧ w'.cell? ⟨kB, 1, none⟩ = some (.int .i64 bh) ∧ w'.cell? ⟨b, off + j * 2 + 1, none⟩ = some (.int .i64 (f j).2))) (by kernel_rfl) ?_ (fun hHeld => ?_)
        · first | exact SK.out _ XB | exact SK.out _ (Below.drew (Below.refl _ _))
        have XB : Below v6.heap.size v6 v6.drew := Below.drew (Below.refl _ _)
        generalize v6.drew = vx at *
        refine wpAnyH_take (i := 0) (v := ?_) (by rw [List.getElem?_toArray]; rfl) (by kernel_rfl) (by kernel_rfl) (by kernel_rfl) (by intro _ _ _ h; exact h) (Or.inl ⟨by rfl, ?_⟩) (by assumption) ?_
        rotate_left
        · (intro w hSw; (try dsimp only at hSw); go_simp; all_goals with_reducible rfl)
        (try simp only [Act.put, List.setIfInBounds_toArray, List.set_cons_zero, List.set_cons_succ])
        refine wpAnyH_take (i := 1) (v := ?_) (by rw [List.getElem?_toArray]; rfl) (by kernel_rfl) (by kernel_rfl) (by kernel_rfl) (by intro _ _ _ h; exact h) (Or.inl ⟨by rfl, ?_⟩) (by assumption) ?_
        rotate_left
        · (intro w hSw; (try dsimp only at hSw); go_simp; all_goals with_reducible rfl)
        (try simp only [Act.put, List.setIfInBounds_toArray, List.set_cons_zero, List.set_cons_succ])
        refine wpAnyH_take (i := 2) (v := ?_) (by rw [List.getElem?_toArray]; rfl) (by kernel_rfl) (by kernel_rfl) (by kernel_rfl) (by intro _ _ _ h; exact h) (Or.inl ⟨by rfl, ?_⟩) (by assumption) ?_
        rotate_left
        · (intro w hSw; (try dsimp only at hSw); go_simp; all_goals with_reducible rfl)
        (try simp only [Act.put, List.setIfInBounds_toArray, List.set_cons_zero, List.set_cons_succ])
        refine wpAnyH_take (i := 3) (v := ?_) (by rw [List.getElem?_toArray]; rfl) (by kernel_rfl) (by kernel_rfl) (by kernel_rfl) (by intro _ _ _ h; exact h) (Or.inl ⟨by rfl, ?_⟩) (by assumption) ?_
        rotate_left
        · (intro w hSw; (try dsimp only at hSw); go_simp; all_goals with_reducible rfl)
        (try simp only [Act.put, List.setIfInBounds_toArray, List.set_cons_zero, List.set_cons_succ])
        refine wpAnyH_take (i := 4) (v := ?_) (by rw [List.getElem?_toArray]; rfl) (by kernel_rfl) (by kernel_rfl) (by kernel_rfl) (by intro _ _ _ h; exact h) (Or.inl ⟨by rfl, ?_⟩) (by assumption) ?_
        rotate_left
        · (intro w hSw; (try dsimp only at hSw); go_simp; all_goals with_reducible rfl)
        (try simp only [Act.put, List.setIfInBounds_toArray, List.set_cons_zero, List.set_cons_succ])
        refine wpAnyH_take (i := 5) (v := ?_) (by rw [List.getElem?_toArray]; rfl) (by kernel_rfl) (by kernel_rfl) (by kernel_rfl) (by intro _ _ _ h; exact h) (Or.inl ⟨by rfl, ?_⟩) (by assumption) ?_
        rotate_left
        · (intro w hSw; (try dsimp only at hSw); go_simp; all_goals with_reducible rfl)
        (try simp only [Act.put, List.setIfInBounds_toArray, List.set_cons_zero, List.set_cons_succ])
        refine wpAnyH_take (i := 6) (v := ?_) (by rw [List.getElem?_toArray]; rfl) (by kernel_rfl) (by kernel_rfl) (by kernel_rfl) (by intro _ _ _ h; exact h) (Or.inl ⟨by rfl, ?_⟩) (by assumption) ?_
        rotate_left
        · (intro w hSw; (try dsimp only at hSw); go_simp; all_goals with_reducible rfl)
        (try simp only [Act.put, List.setIfInBounds_toArray, List.set_cons_zero, List.set_cons_succ])
        refine wpAnyH_take (i := 7) (v := ?_) (by rw [List.getElem?_toArray]; rfl) (by kernel_rfl) (by kernel_rfl) (by kernel_rfl) (by intro _ _ _ h; exact h) (Or.inl ⟨by rfl, ?_⟩) (by assumption) ?_
        rotate_left
        · (intro w hSw; (try dsimp only at hSw); go_simp; all_goals with_reducible rfl)
        (try simp only [Act.put, List.setIfInBounds_toArray, List.set_cons_zero, List.set_cons_succ])
        refine wpAnyH_take (i := 8) (v := ?_) (by rw [List.getElem?_toArray]; rfl) (by kernel_rfl) (by kernel_rfl) (by kernel_rfl) (by intro _ _ _ h; exact h) (Or.inl ⟨by rfl, ?_⟩) (by assumption) ?_
        rotate_left
        · (intro w hSw; (try dsimp only at hSw); go_simp; all_goals with_reducible rfl)
        (try simp only [Act.put, List.setIfInBounds_toArray, List.set_cons_zero, List.set_cons_succ])
        refine wpAnyH_take (i := 9) (v := ?_) (by rw [List.getElem?_toArray]; rfl) (by kernel_rfl) (by kernel_rfl) (by kernel_rfl) (by intro _ _ _ h; exact h) (Or.inl ⟨by rfl, ?_⟩) (by assumption) ?_
        rotate_left
        · (intro w hSw; (try dsimp only at hSw); go_simp; all_goals with_reducible rfl)
        (try simp only [Act.put, List.setIfInBounds_toArray, List.set_cons_zero, List.set_cons_succ])
        refine wpAnyH_take (i := 10) (v := ?_) (by rw [List.getElem?_toArray]; rfl) (by kernel_rfl) (by kernel_rfl) (by kernel_rfl) (by intro _ _ _ h; exact h) (Or.inl ⟨by rfl, ?_⟩) (by assumption) ?_
        rotate_left
        · (intro w hSw; (try dsimp only at hSw); go_simp; all_goals with_reducible rfl)
        (try simp only [Act.put, List.setIfInBounds_toArray, List.set_cons_zero, List.set_cons_succ])
        refine wpAnyH_take (i := 11) (v := ?_) (by rw [List.getElem?_toArray]; rfl) (by kernel_rfl) (by kernel_rfl) (by kernel_rfl) (by intro _ _ _ h; exact h) (Or.inl ⟨by rfl, ?_⟩) (by assumption) ?_
        rotate_left
        · (intro w hSw; (try dsimp only at hSw); go_simp; all_goals with_reducible rfl)
        (try simp only [Act.put, List.setIfInBounds_toArray, List.set_cons_zero, List.set_cons_succ])
        refine wpAnyH_take (i := 12) (v := ?_) (by rw [List.getElem?_toArray]; rfl) (by kernel_rfl) (by kernel_rfl) (by kernel_rfl) (by intro _ _ _ h; exact h) (Or.inl ⟨by rfl, ?_⟩) (by assumption) ?_
        rotate_left
        · (intro w hSw; (try dsimp only at hSw); go_simp; all_goals with_reducible rfl)
        (try simp only [Act.put, List.setIfInBounds_toArray, List.set_cons_zero, List.set_cons_succ])
        refine wpAnyH_take (i := 13) (v := ?_) (by rw [List.getElem?_toArray]; rfl) (by kernel_rfl) (by kernel_rfl) (by kernel_rfl) (by intro _ _ _ h; exact h) (Or.inl ⟨by rfl, ?_⟩) (by assumption) ?_
        rotate_left
        · (intro w hSw; (try dsimp only at hSw); go_simp; all_goals with_reducible rfl)
        (try simp only [Act.put, List.setIfInBounds_toArray, List.set_cons_zero, List.set_cons_succ])
        refine wpAnyH_ready (rs := [14]) (by kernel_rfl) (by simp) ?_
        refine AllReadyH.cons (by rw [List.getElem?_toArray]; rfl) (fun K hK => ?_) AllReadyH.nil
        go_simp
        refine (CB _ (E.below XB) (E1.below XB)).mono ?_; rintro ee vx ⟨rfl, hbl⟩; (replace XB := XB.trans (hbl.mono XB.size)); clear hbl
        (try go_wp2_with fail)
        refine hK.out _ _ ?_ (fun hHeld => ?_)
        · first | exact SK.out _ XB | exact SK.out _ (Below.drew (Below.refl _ _))
        clear hK K
        (try simp only [Act.put, List.setIfInBounds_toArray, List.set_cons_zero, List.set_cons_succ])
        refine wpAnyH_done (by kernel_rfl) ?_ _
        go_wp2_with fail
        go_meet
        case rel => exact ⟨rfl, XB⟩
      case rest =>
        obtain ⟨rfl, nl⟩ := hcut
        clear SK cb CB KA KB
        replace O := O.below nl; replace KL := KL.below nl; replace KH := KH.below nl; replace S := S.below nl S.1; replace E := E.below nl; replace E1 := E1.below nl; replace B := B.trans (nl.mono B.size); clear nl
        generalize wc = v7 at *
        have ci := ((S).2 i him).2
        have cj := ((S).2 j hjm).2
        have cb := S.1
        have hwn : wrap64 ((f j).2 - (f i).2) = (f j).2 - (f i).2 := Go.IntWalk.wrap64_in _ ⟨by omega, by omega⟩
        have hwm : IntKind.i64.wrap ((f j).2 - (f i).2) = (f j).2 - (f i).2 := Go.IntWalk.i64_in _ ⟨by omega, by omega⟩
        go_wp2_with fail
        go_quiet (fail)
        clear ci cj cb
        have nl : Below v7.heap.size v7 (v7.drewN nq) := below_drewN (Below.refl _ _) nq
        replace O := O.below nl; replace KL := KL.below nl; replace KH := KH.below nl; replace S := S.below nl S.1; replace E := E.below nl; replace E1 := E1.below nl; replace B := B.trans (nl.mono B.size); clear nl
        generalize v7.drewN nq = v8 at *
        have HM2 := HM1.out
        generalize (f j).2 - (f i).2 = nn at *
        clear hwn hwm HM1
        have CN := fun w' E' => CC nn w' E'
        have CW := fun w' => specBetween_any x y nn w'
        clear CC
        by_cases hf : 1000000 < nn
        · have hf' : decide (1000000 < nn) = true := decide_eq_true hf
          rw [rate_far hf] at CN
          generalize rcL ra rb rc re nn = q1 at *
          generalize rcH ra rb rc re nn = q2 at *
          obtain ⟨a0', a1', a2', a3', a4'⟩ := id KL
          obtain ⟨b0', b1', b2', b3', b4'⟩ := id KH
          go_wp2_with fail
          refine (CN _ E).mono ?_
          rintro e v9 ⟨rfl, nl⟩
          clear a0' a1' a2' a3' a4' b0' b1' b2' b3' b4'
          replace O := O.below nl; replace KL := KL.below nl; replace KH := KH.below nl; replace S := S.below nl S.1; replace E := E.below nl; replace E1 := E1.below nl; replace B := B.trans (nl.mono B.size); clear nl
          have nl := Below.nw v9 (.cells #[.int .i64 q1, .int .i64 q2] 49)
          replace O := O.below nl; replace KL := KL.below nl; replace KH := KH.below nl; replace S := S.below nl S.1; replace E := E.below nl; replace E1 := E1.below nl; replace B := B.trans (nl.mono B.size); clear nl
          go_upto_region 18 with fail
          generalize v9.alloc (.cells #[.int .i64 q1, .int .i64 q2] 49) = v10 at *
          obtain ⟨o0, o1, o2, o3, o4, o5, o6, o7, o8⟩ := id O
          go_wp2_with fail
          refine (CW _).mono ?_
          rintro e v11 ⟨rfl, nl⟩
          clear o0 o1 o2 o3 o4 o5 o6 o7 o8
          replace O := O.below nl; replace KL := KL.below nl; replace KH := KH.below nl; replace S := S.below nl S.1; replace E := E.below nl; replace E1 := E1.below nl; replace B := B.trans (nl.mono B.size); clear nl
          go_wp2_with fail
          go_ret
          exact ⟨rfl, Below.alloc B B.size _⟩
        · have hf' : decide (1000000 < nn) = false := decide_eq_false hf
          obtain ⟨t1, t2, t3, t4⟩ := HCB.out nn HM2 (by omega)
          rw [t1, t2, t3] at CN
          rw [t4, sel_t rfl, sel_t rfl] at CW
          clear t1 t2 t3 t4 HCB
          generalize upI (nn * y) (y + x) = q1 at *
          generalize dnI (nn * y) (y - x) = q2 at *
          have zz1 : (q1 == q1) = true := by simp
          have zz2 : (q2 == q2) = true := by simp
          obtain ⟨a0', a1', a2', a3', a4'⟩ := id KL
          obtain ⟨b0', b1', b2', b3', b4'⟩ := id KH
          go_wp2_with fail
          refine (CN _ E).mono ?_
          rintro e v9 ⟨rfl, nl⟩
          clear a0' a1' a2' a3' a4' b0' b1' b2' b3' b4'
          replace O := O.below nl; replace KL := KL.below nl; replace KH := KH.below nl; replace S := S.below nl S.1; replace E := E.below nl; replace E1 := E1.below nl; replace B := B.trans (nl.mono B.size); clear nl
          have nl := Below.nw v9 (.cells #[.int .i64 q1, .int .i64 q2] 49)
          have KC := Bx2.new v9 (.int .i64 q1) (.int .i64 q2) 49
          replace O := O.below nl; replace KL := KL.below nl; replace KH := KH.below nl; replace S := S.below nl S.1; replace E := E.below nl; replace E1 := E1.below nl; replace B := B.trans (nl.mono B.size); clear nl
          go_upto_region 18 with fail
          generalize v9.alloc (.cells #[.int .i64 q1, .int .i64 q2] 49) = v10 at *
          generalize v9.heap.size = kC at *
          obtain ⟨o0, o1, o2, o3, o4, o5, o6, o7, o8⟩ := id O
          go_wp2_with fail
          refine (CW _).mono ?_
          rintro e v11 ⟨rfl, nl⟩
          clear o0 o1 o2 o3 o4 o5 o6 o7 o8
          replace KC := KC.below nl
          replace O := O.below nl; replace KL := KL.below nl; replace KH := KH.below nl; replace S := S.below nl S.1; replace E := E.below nl; replace E1 := E1.below nl; replace B := B.trans (nl.mono B.size); clear nl
          have nl := Below.nw v11 (.cells #[.int .i64 q1, .int .i64 q2] 49)
          have KD := Bx2.new v11 (.int .i64 q1) (.int .i64 q2) 49
          replace KC := KC.below nl
          replace O := O.below nl; replace KL := KL.below nl; replace KH := KH.below nl; replace S := S.below nl S.1; replace E := E.below nl; replace E1 := E1.below nl; replace B := B.trans (nl.mono B.size); clear nl
          go_upto_region 19 with fail
          generalize v11.alloc (.cells #[.int .i64 q1, .int .i64 q2] 49) = v12 at *
          generalize v11.heap.size = kD at *
          obtain ⟨a0', a1', a2', a3', a4'⟩ := id KC
          obtain ⟨b0', b1', b2', b3', b4'⟩ := id KD
          go_wp2_with fail
          go_ret
          exact ⟨rfl, B⟩
end Go.Proofs.YtblappilppfkiaaDoor
