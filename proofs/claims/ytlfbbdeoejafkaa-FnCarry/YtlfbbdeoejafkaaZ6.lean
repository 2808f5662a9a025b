/- The walk of FnCarry. -/
import Derived.Test.YtlfbbdeoejafkaaZ5
import Derived.Test.YtlfbbdeoejafkaaV3
import Derived.Test.YtlfbbdeoejafkaaR3
import Derived.Deep.DeepCutAuto
import Derived.WalkKit
import Derived.WalkSpells
import Derived.WalkLawsBesides
import Derived.Deep.RegionHeld
import Derived.Deep.RegionHeld3
namespace Go.Proofs.Ytlfbbdeoejafkaa
open Go.RowKit
set_option linter.unusedVariables false
theorem Prs.setO6 {w : World} {b off n j : Nat} {f : Nat → Int × Int} (h : Prs w b off n f) (hk : j ≠ b) (o : Nat) (u : Value) : Prs (w.setCell ⟨j, o, none⟩ u) b off n f := by
  have hne : ∀ q, (⟨j, o, none⟩ : Addr) ≠ ⟨b, q, none⟩ := fun q e => hk (congrArg Addr.block e)
  exact ⟨by simpa using h.1, fun i hi => ⟨by rw [World.cell?_setCell_other _ _ _ _ (hne _)]; exact (h.2 i hi).1, by rw [World.cell?_setCell_other _ _ _ _ (hne _)]; exact (h.2 i hi).2⟩⟩
theorem Prs.drew6 {w : World} {b off n : Nat} {f : Nat → Int × Int} (h : Prs w b off n f) : Prs w.drew b off n f := h
theorem Prs.belo6 {w w' : World} {b off n : Nat} {f : Nat → Int × Int} (h : Prs w b off n f) (hb : Below w.heap.size w w') : Prs w' b off n f := h.below hb h.1
theorem Prs.alloc6 {w : World} {b off n : Nat} {f : Nat → Int × Int} (h : Prs w b off n f) (ob : Obj) : Prs (w.alloc ob) b off n f := h.belo6 (Below.alc w ob)
theorem Prs.setLO {w : World} {b off n j : Nat} {f : Nat → Int × Int} (h : Prs w b off n f) (hk : j ≠ b) (a : Bool) (c d e : Int) : Prs (setL w j a c d e) b off n f := (((h.setO6 hk _ _).setO6 hk _ _).setO6 hk _ _).setO6 hk _ _
theorem Prs.setIO {w : World} {b off n j : Nat} {f : Nat → Int × Int} (h : Prs w b off n f) (hk : j ≠ b) (c d : Int) : Prs (putI w j c d) b off n f := (h.setO6 hk _ _).setO6 hk _ _
theorem Box4.setLO {k j : Nat} {w : World} {a b c d : Int} (h : Box4 w k a b c d) (hk : j ≠ k) (a' : Bool) (b' c' d' : Int) : Box4 (setL w j a' b' c' d') k a b c d := (((h.setO hk _ _).setO hk _ _).setO hk _ _).setO hk _ _
theorem Box4.setIO {k j : Nat} {w : World} {a b c d : Int} (h : Box4 w k a b c d) (hk : j ≠ k) (x y : Int) : Box4 (putI w j x y) k a b c d := (h.setO hk _ _).setO hk _ _
theorem lo_le6 {T z : Int} (h1 : 0 ≤ T) (h2 : T ≤ 1000000000000) (z0 : 0 ≤ z) (z1 : z ≤ 255) : IntKind.i64.wrap (T - z.tmod 9) ≤ T := by
  have e : z.tmod 9 = z % 9 := Int.tmod_eq_emod_of_nonneg z0
  rw [e, Go.IntWalk.i64_in _ ⟨by omega, by omega⟩]; omega
theorem hi_ge6 {T z : Int} (h1 : 0 ≤ T) (h2 : T ≤ 1000000000000) (z0 : 0 ≤ z) (z1 : z ≤ 255) : T ≤ IntKind.i64.wrap (T + z.tmod 9) := by
  have e : z.tmod 9 = z % 9 := Int.tmod_eq_emod_of_nonneg z0
  rw [e, Go.IntWalk.i64_in _ ⟨by omega, by omega⟩]; omega
theorem first_at {z : Int} {l : Nat} (hl : ¬ l = 0) (z0 : 0 ≤ z) : ∃ i : Nat, z.tmod (l : Int) = (i : Int) ∧ i < l ∧ (i : Int) < (l : Int) ∧ ¬ (l : Int) = 0 := by
  obtain ⟨i, h1, h2⟩ := tmod_in6 z0 (show 1 ≤ l by omega)
  exact ⟨i, h1, h2, by omega, by omega⟩
theorem next_at {z : Int} {l i : Nat} (hi : i < l) (z0 : 0 ≤ z) : ∃ r k : Nat, z.tmod ((l : Int) - (i : Int)) = (r : Int) ∧ (i : Int) + (r : Int) = (k : Int) ∧ i ≤ k ∧ k < l ∧ (k : Int) < (l : Int) ∧ ¬ (l : Int) - (i : Int) = 0 := by
  obtain ⟨r, h1, h2⟩ := tmod_in6 z0 (show 1 ≤ l - i by omega)
  rw [show ((l - i : Nat) : Int) = (l : Int) - (i : Int) by omega] at h1
  exact ⟨r, i + r, h1, by omega, by omega, by omega, by omega, by omega⟩
theorem len_beq {l : Nat} (hl : ¬ l = 0) : ((l : Int) == 0) = false := by rw [beq_eq_false_iff_ne]; omega
theorem max_help {m : Nat} (h : m ≤ 1000) : m ≤ maxLen := by unfold maxLen; omega
set_option maxRecDepth 100000 in
set_option maxHeartbeats 8000000 in
theorem walkCarry (a0 : Option Addr) (n0 c0 : Nat) (w : World) (hcode : CodeB w w.heap.size a0 n0) :
    Calls Try.prog 3 #[.slice a0 n0 c0] w fun e w' => e = .returned (.bool true) ∧ Below w.heap.size w w' := by
  by_cases hbig : (1048576 : Int) < (n0 : Int)
  · go_enter Try.func3, Try.ntmps3
    go_wp2_with (go_at_call 6; refine (big_any _ _ _ _).mono ?_; rintro e w' ⟨rfl, rfl⟩)
    go_ret
    exact ⟨rfl, Below.refl _ _⟩
  have hd : decide ((1048576 : Int) < (n0 : Int)) = false := by simp; omega
  have hn0 : n0 ≤ 1048576 := by omega
  have HC : Hid (CodeB w w.heap.size a0 n0) := hcode
  clear hcode hbig
  go_enter Try.func3, Try.ntmps3
  go_wp2_with (go_at_call 6; refine (big_any _ _ _ _).mono ?_; rintro e w' ⟨rfl, rfl⟩)
  refine (DrawOscRun_any a0 n0 c0 _ hn0 HC.out).mono ?_
  rintro e w1 ⟨x, y, t, u, vs, LS, rfl, O1, hLS, B1⟩
  obtain ⟨a, cp, rfl, hmc, hcm, hsrc⟩ := own_src O1
  have SR : Hid (Src w1 a LS.length fun i => LS.getD i (0, 0)) := hsrc
  clear O1 hsrc
  generalize (fun i => LS.getD i (0, 0)) = fs at *
  generalize LS.length = m at *
  have hmm : m ≤ maxLen := max_help hLS
  have A1 := Below.alc w1 (.cells #[.int .i64 x, .int .i64 y, .int .i64 t, .int .i64 u] 27)
  have O := Box4.new w1 x y t u 27
  have B := B1.trans (A1.mono B1.size)
  have SR' : Hid (Src (w1.alloc (.cells #[.int .i64 x, .int .i64 y, .int .i64 t, .int .i64 u] 27)) a m fs) := SR.out.below A1
  have CS := fun (w' : World) (h : Src w' a m fs) => specOscRun_any x y t u a m cp fs w' hmm h
  have hLen := runL_len x y t u fs m
  have HR : Hid ((runL x y t u fs m).length ≠ 0 → mrB x y (fun i => (runL x y t u fs m).getD i (0, 0)) (runL x y t u fs m).length 1 = true) := run_marks6
  clear A1 SR B1
  generalize runL x y t u fs m = LL at *
  generalize runD x y t u fs m = DD at *
  go_wp2_with fail
  generalize w1.alloc (.cells #[.int .i64 x, .int .i64 y, .int .i64 t, .int .i64 u] 27) = v1 at *
  generalize w1.heap.size = kO at *
  refine (CS _ SR'.out).mono ?_
  rintro e v ⟨vm, rfl, OM, hb⟩
  replace B := B.trans (hb.mono B.size)
  replace O := O.below hb
  clear hb CS SR'
  obtain ⟨am, cm, rfl, hmc', hmm', SM⟩ := own_src OM
  have S0 : Hid (Src v am LL.length fun i => LL.getD i (0, 0)) := SM
  clear OM SM
  generalize (fun i => LL.getD i (0, 0)) = f at *
  generalize LL.length = l at *
  obtain ⟨o0, o1, o2, o3, o4, o5, o6, o7, o8⟩ := id O
  by_cases hl : l = 0
  · subst hl
    have C0 := fun w' => implCarryOn_any false 0 0 0 x y 0 w'
    have Z0 : Hid (crC false 0 0 0 x y 0 = 1 ∨ crC false 0 0 0 x y 0 = 2) := by
      rcases cr_cases false 0 0 0 x y 0 with ⟨_, e⟩ | ⟨_, _, e⟩ | ⟨_, h, _⟩
      · exact .inl e
      · exact .inr e
      · exact absurd h (by decide)
    generalize crL false 0 0 0 x y 0 = q1 at *
    generalize crH false 0 0 0 x y 0 = q2 at *
    generalize crC false 0 0 0 x y 0 = q3 at *
    go_wp2_with fail
    refine (C0 _).mono ?_
    rintro e v4 ⟨rfl, hb⟩
    have B3 := (B.trans (hb.mono B.size))
    have B4 := B3.alloc B3.size (.cells #[.int .i64 q1, .int .i64 q2] 35)
    clear hb C0 B
    rcases Z0.out with e | e
    · subst e
      go_wp2_with fail
      go_ret
      exact ⟨rfl, B4⟩
    · subst e
      go_wp2_with fail
      go_ret
      exact ⟨rfl, B4⟩
  have hl0 : ((l : Int) == 0) = false := len_beq hl
  have hr1 := HR.out hl
  have HR1 : Hid (mrB x y f l 1 = true) := hr1
  clear hr1 HR
  clear o0 o1 o2 o3 o4 o5 o6 o7 o8
  go_wp2_with fail
  refine (at_any a0 n0 c0 1 w.heap.size _ hn0 (by decide) (HC.out.below B)).mono ?_
  rintro e w' ⟨z, rfl, z0, z1, rfl⟩
  obtain ⟨i, hi, him, hi', hlz⟩ := first_at hl z0
  go_wp2_with fail
  refine (at_any a0 n0 c0 2 w.heap.size _ hn0 (by decide) (HC.out.below B)).mono ?_
  rintro e w' ⟨z', rfl, z0', z1', rfl⟩
  obtain ⟨r, k, hr, hkk, hik, hkm, hkm', hlz'⟩ := next_at him z0'
  go_wp2_with fail
  refine (at_any a0 n0 c0 3 w.heap.size _ hn0 (by decide) (HC.out.below B)).mono ?_
  rintro e w' ⟨z2, rfl, z02, z12, rfl⟩
  obtain ⟨r2, j, hr2, hjj, hkj, hjm, hjm', hlz2⟩ := next_at hkm z02
  have ⟨_, _, _, hok⟩ := mkB_t (mrB_t HR1.out).1
  have ⟨i1, i2⟩ := okT_t (hok i him).1
  clear hok
  rcases S0.out with h0 | ⟨b, off, rfl, S⟩
  · exact absurd h0 (by intro h; exact hl h)
  clear S0
  go_wp2_with fail
  (obtain ⟨Oc0, Oc1, Oc2, Oc3, Oc4, Oc5, Oc6, Oc7, Oc8⟩ := id O); (have ci1 := (S.2 i him).1); (have ci2 := (S.2 i him).2); (have ck2 := (S.2 k hkm).2); (have cj1 := (S.2 j hjm).1); (have cj2 := (S.2 j hjm).2); (have cb := S.1)
  go_cut [12] (fun s12 wx => ∃ (jL : Nat) (lo hi : Int), s12 = .pointer (some ⟨jL, 0, none⟩) ∧ lo ≤ (f i).1 ∧ (f i).1 ≤ hi ∧ BoxL wx jL true lo hi (f i).2 ∧ kO < jL ∧ b < jL ∧ Box4 wx kO x y t u ∧ Prs wx b off l f ∧ Below w.heap.size w wx)
  case first =>
    as_aux_lemma =>
      refine wp_region_held_drew (S := (fun w' => w'.cell? ⟨b, off + i * 2, none⟩ = some (.int .i64 (f i).1) ∧ w'.cell? ⟨b, off + i * 2 + 1, none⟩ = some (.int .i64 (f i).2))) (by kernel_rfl) ?_ (fun hHeld => ?_)
      · first | exact ⟨ci1, ci2⟩ | (simp (maxDischargeDepth := 6) [go_sem, *]; done)
      clear Oc0 Oc1 Oc2 Oc3 Oc4 Oc5 Oc6 Oc7 Oc8 ci1 ci2 ck2 cj1 cj2 cb
      replace O := O.drew
      replace S := S.drew6
      replace B := B.drew
      generalize v.drew = v at *
      (obtain ⟨Oc0, Oc1, Oc2, Oc3, Oc4, Oc5, Oc6, Oc7, Oc8⟩ := id O); (have ci1 := (S.2 i him).1); (have ci2 := (S.2 i him).2); (have ck2 := (S.2 k hkm).2); (have cj1 := (S.2 j hjm).1); (have cj2 := (S.2 j hjm).2); (have cb := S.1)
      refine wpAnyH_take (i := 0) (v := ?_) (by rw [List.getElem?_toArray]; rfl) (by kernel_rfl) (by kernel_rfl) (by kernel_rfl) (by intro _ _ _ h; exact h) (Or.inl ⟨by rfl, ?_⟩) (by assumption) ?_
      rotate_left
      · (intro w hSw; (try dsimp only at hSw); go_simp; all_goals with_reducible rfl)
      (try simp only [Act.put, List.setIfInBounds_toArray, List.set_cons_zero, List.set_cons_succ])
      refine wpAnyH_take (i := 1) (v := ?_) (by rw [List.getElem?_toArray]; rfl) (by kernel_rfl) (by kernel_rfl) (by kernel_rfl) (by intro _ _ _ h; exact h) (Or.inl ⟨by rfl, ?_⟩) (by assumption) ?_
      rotate_left
      · (intro w hSw; (try dsimp only at hSw); go_simp; all_goals with_reducible rfl)
      (try simp only [Act.put, List.setIfInBounds_toArray, List.set_cons_zero, List.set_cons_succ])
      refine wpAnyH_take (i := 2) (v := ?_) (by rw [List.getElem?_toArray]; rfl) (by kernel_rfl) (by kernel_rfl) (by kernel_rfl) (by intro _ _ _ h; exact h) (Or.inl ⟨by rfl, ?_⟩) (by assumption) ?_
      rotate_left
      · (intro w hSw; (try dsimp only at hSw); go_simp; all_goals with_reducible rfl)
      (try simp only [Act.put, List.setIfInBounds_toArray, List.set_cons_zero, List.set_cons_succ])
      refine wpAnyH_take (i := 3) (v := ?_) (by rw [List.getElem?_toArray]; rfl) (by kernel_rfl) (by kernel_rfl) (by kernel_rfl) (by intro _ _ _ h; exact h) (Or.inl ⟨by rfl, ?_⟩) (by assumption) ?_
      rotate_left
      · (intro w hSw; (try dsimp only at hSw); go_simp; all_goals with_reducible rfl)
      (try simp only [Act.put, List.setIfInBounds_toArray, List.set_cons_zero, List.set_cons_succ])
      refine wpAnyH_take (i := 4) (v := ?_) (by rw [List.getElem?_toArray]; rfl) (by kernel_rfl) (by kernel_rfl) (by kernel_rfl) (by intro _ _ _ h; exact h) (Or.inl ⟨by rfl, ?_⟩) (by assumption) ?_
      rotate_left
      · (intro w hSw; (try dsimp only at hSw); go_simp; all_goals with_reducible rfl)
      (try simp only [Act.put, List.setIfInBounds_toArray, List.set_cons_zero, List.set_cons_succ])
      refine wpAnyH_take (i := 5) (v := ?_) (by rw [List.getElem?_toArray]; rfl) (by kernel_rfl) (by kernel_rfl) (by kernel_rfl) (by intro _ _ _ h; exact h) (Or.inl ⟨by rfl, ?_⟩) (by assumption) ?_
      rotate_left
      · (intro w hSw; (try dsimp only at hSw); go_simp; all_goals with_reducible rfl)
      (try simp only [Act.put, List.setIfInBounds_toArray, List.set_cons_zero, List.set_cons_succ])
      refine wpAnyH_take (i := 9) (v := ?_) (by rw [List.getElem?_toArray]; rfl) (by kernel_rfl) (by kernel_rfl) (by kernel_rfl) (by intro _ _ _ h; exact h) (Or.inl ⟨by rfl, ?_⟩) (by assumption) ?_
      rotate_left
      · (intro w hSw; (try dsimp only at hSw); go_simp; all_goals with_reducible rfl)
      (try simp only [Act.put, List.setIfInBounds_toArray, List.set_cons_zero, List.set_cons_succ])
      refine wpAnyH_take (i := 10) (v := ?_) (by rw [List.getElem?_toArray]; rfl) (by kernel_rfl) (by kernel_rfl) (by kernel_rfl) (by intro _ _ _ h; exact h) (Or.inl ⟨by rfl, ?_⟩) (by assumption) ?_
      rotate_left
      · (intro w hSw; (try dsimp only at hSw); go_simp; all_goals with_reducible rfl)
      (try simp only [Act.put, List.setIfInBounds_toArray, List.set_cons_zero, List.set_cons_succ])
      refine wpAnyH_take (i := 11) (v := ?_) (by rw [List.getElem?_toArray]; rfl) (by kernel_rfl) (by kernel_rfl) (by kernel_rfl) (by intro _ _ _ h; exact h) (Or.inl ⟨by rfl, ?_⟩) (by assumption) ?_
      rotate_left
      · (intro w hSw; (try dsimp only at hSw); go_simp; all_goals with_reducible rfl)
      (try simp only [Act.put, List.setIfInBounds_toArray, List.set_cons_zero, List.set_cons_succ])
      refine wpAnyH_take (i := 12) (v := ?_) (by rw [List.getElem?_toArray]; rfl) (by kernel_rfl) (by kernel_rfl) (by kernel_rfl) (by intro _ _ _ h; exact h) (Or.inl ⟨by rfl, ?_⟩) (by assumption) ?_
      rotate_left
      · (intro w hSw; (try dsimp only at hSw); go_simp; all_goals with_reducible rfl)
      (try simp only [Act.put, List.setIfInBounds_toArray, List.set_cons_zero, List.set_cons_succ])
      refine wpAnyH_take (i := 13) (v := ?_) (by rw [List.getElem?_toArray]; rfl) (by kernel_rfl) (by kernel_rfl) (by kernel_rfl) (by intro _ _ _ h; exact h) (Or.inl ⟨by rfl, ?_⟩) (by assumption) ?_
      rotate_left
      · (intro w hSw; (try dsimp only at hSw); go_simp; all_goals with_reducible rfl)
      (try simp only [Act.put, List.setIfInBounds_toArray, List.set_cons_zero, List.set_cons_succ])
      refine wpAnyH_take (i := 14) (v := ?_) (by rw [List.getElem?_toArray]; rfl) (by kernel_rfl) (by kernel_rfl) (by kernel_rfl) (by intro _ _ _ h; exact h) (Or.inl ⟨by rfl, ?_⟩) (by assumption) ?_
      rotate_left
      · (intro w hSw; (try dsimp only at hSw); go_simp; all_goals with_reducible rfl)
      (try simp only [Act.put, List.setIfInBounds_toArray, List.set_cons_zero, List.set_cons_succ])
      refine wpAnyH_take (i := 19) (v := ?_) (by rw [List.getElem?_toArray]; rfl) (by kernel_rfl) (by kernel_rfl) (by kernel_rfl) (by intro _ _ _ h; exact h) (Or.inl ⟨by rfl, ?_⟩) (by assumption) ?_
      rotate_left
      · (intro w hSw; (try dsimp only at hSw); go_simp; all_goals with_reducible rfl)
      (try simp only [Act.put, List.setIfInBounds_toArray, List.set_cons_zero, List.set_cons_succ])
      refine wpAnyH_take (i := 20) (v := ?_) (by rw [List.getElem?_toArray]; rfl) (by kernel_rfl) (by kernel_rfl) (by kernel_rfl) (by intro _ _ _ h; exact h) (Or.inl ⟨by rfl, ?_⟩) (by assumption) ?_
      rotate_left
      · (intro w hSw; (try dsimp only at hSw); go_simp; all_goals with_reducible rfl)
      (try simp only [Act.put, List.setIfInBounds_toArray, List.set_cons_zero, List.set_cons_succ])
      refine wpAnyH_take (i := 21) (v := ?_) (by rw [List.getElem?_toArray]; rfl) (by kernel_rfl) (by kernel_rfl) (by kernel_rfl) (by intro _ _ _ h; exact h) (Or.inl ⟨by rfl, ?_⟩) (by assumption) ?_
      rotate_left
      · (intro w hSw; (try dsimp only at hSw); go_simp; all_goals with_reducible rfl)
      (try simp only [Act.put, List.setIfInBounds_toArray, List.set_cons_zero, List.set_cons_succ])
      refine wpAnyH_take (i := 22) (v := ?_) (by rw [List.getElem?_toArray]; rfl) (by kernel_rfl) (by kernel_rfl) (by kernel_rfl) (by intro _ _ _ h; exact h) (Or.inl ⟨by rfl, ?_⟩) (by assumption) ?_
      rotate_left
      · (intro w hSw; (try dsimp only at hSw); go_simp; all_goals with_reducible rfl)
      (try simp only [Act.put, List.setIfInBounds_toArray, List.set_cons_zero, List.set_cons_succ])
      refine wpAnyH_take (i := 23) (v := ?_) (by rw [List.getElem?_toArray]; rfl) (by kernel_rfl) (by kernel_rfl) (by kernel_rfl) (by intro _ _ _ h; exact h) (Or.inl ⟨by rfl, ?_⟩) (by assumption) ?_
      rotate_left
      · (intro w hSw; (try dsimp only at hSw); go_simp; all_goals with_reducible rfl)
      (try simp only [Act.put, List.setIfInBounds_toArray, List.set_cons_zero, List.set_cons_succ])
      refine wpAnyH_ready (rs := [6, 25]) (by kernel_rfl) (by simp) ?_
      refine (AllReadyH.cons (by rw [List.getElem?_toArray]; rfl) (fun K hK => ?_) (AllReadyH.cons (by rw [List.getElem?_toArray]; rfl) (fun K hK => ?_) AllReadyH.nil))
      · go_simp
        refine (at_any a0 n0 c0 4 w.heap.size _ hn0 (by decide) (HC.out.below B)).mono ?_; rintro e w' ⟨y4, rfl, y40, y41, rfl⟩
        (try go_wp2_with fail)
        refine hK.out _ _ ?_ (fun hHeld => ?_)
        · first | exact ⟨ci1, ci2⟩ | (simp (maxDischargeDepth := 6) [go_sem, *]; done)
        clear hK K
        (try simp only [Act.put, List.setIfInBounds_toArray, List.set_cons_zero, List.set_cons_succ])
        refine wpAnyH_take (i := 7) (v := ?_) (by rw [List.getElem?_toArray]; rfl) (by kernel_rfl) (by kernel_rfl) (by kernel_rfl) (by intro _ _ _ h; exact h) (Or.inl ⟨by rfl, ?_⟩) (by assumption) ?_
        rotate_left
        · (intro w hSw; (try dsimp only at hSw); go_simp; all_goals with_reducible rfl)
        (try simp only [Act.put, List.setIfInBounds_toArray, List.set_cons_zero, List.set_cons_succ])
        refine wpAnyH_take (i := 8) (v := ?_) (by rw [List.getElem?_toArray]; rfl) (by kernel_rfl) (by kernel_rfl) (by kernel_rfl) (by intro _ _ _ h; exact h) (Or.inl ⟨by rfl, ?_⟩) (by assumption) ?_
        rotate_left
        · (intro w hSw; (try dsimp only at hSw); go_simp; all_goals with_reducible rfl)
        (try simp only [Act.put, List.setIfInBounds_toArray, List.set_cons_zero, List.set_cons_succ])
        refine wpAnyH_ready (rs := [15, 25]) (by kernel_rfl) (by simp) ?_
        refine (AllReadyH.cons (by rw [List.getElem?_toArray]; rfl) (fun K hK => ?_) (AllReadyH.cons (by rw [List.getElem?_toArray]; rfl) (fun K hK => ?_) AllReadyH.nil))
        · go_simp
          refine (at_any a0 n0 c0 5 w.heap.size _ hn0 (by decide) (HC.out.below B)).mono ?_; rintro e w' ⟨y5, rfl, y50, y51, rfl⟩
          (try go_wp2_with fail)
          refine hK.out _ _ ?_ (fun hHeld => ?_)
          · first | exact ⟨ci1, ci2⟩ | (simp (maxDischargeDepth := 6) [go_sem, *]; done)
          clear hK K
          (try simp only [Act.put, List.setIfInBounds_toArray, List.set_cons_zero, List.set_cons_succ])
          refine wpAnyH_take (i := 16) (v := ?_) (by rw [List.getElem?_toArray]; rfl) (by kernel_rfl) (by kernel_rfl) (by kernel_rfl) (by intro _ _ _ h; exact h) (Or.inl ⟨by rfl, ?_⟩) (by assumption) ?_
          rotate_left
          · (intro w hSw; (try dsimp only at hSw); go_simp; all_goals with_reducible rfl)
          (try simp only [Act.put, List.setIfInBounds_toArray, List.set_cons_zero, List.set_cons_succ])
          refine wpAnyH_take (i := 17) (v := ?_) (by rw [List.getElem?_toArray]; rfl) (by kernel_rfl) (by kernel_rfl) (by kernel_rfl) (by intro _ _ _ h; exact h) (Or.inl ⟨by rfl, ?_⟩) (by assumption) ?_
          rotate_left
          · (intro w hSw; (try dsimp only at hSw); go_simp; all_goals with_reducible rfl)
          (try simp only [Act.put, List.setIfInBounds_toArray, List.set_cons_zero, List.set_cons_succ])
          refine wpAnyH_take (i := 18) (v := ?_) (by rw [List.getElem?_toArray]; rfl) (by kernel_rfl) (by kernel_rfl) (by kernel_rfl) (by intro _ _ _ h; exact h) (Or.inl ⟨by rfl, ?_⟩) (by assumption) ?_
          rotate_left
          · (intro w hSw; (try dsimp only at hSw); go_simp; all_goals with_reducible rfl)
          (try simp only [Act.put, List.setIfInBounds_toArray, List.set_cons_zero, List.set_cons_succ])
          refine wpAnyH_take (i := 24) (v := ?_) (by rw [List.getElem?_toArray]; rfl) (by kernel_rfl) (by kernel_rfl) (by kernel_rfl) (by intro _ _ _ h; exact h) (Or.inl ⟨by rfl, ?_⟩) (by assumption) ?_
          rotate_left
          · (intro w hSw; (try dsimp only at hSw); go_simp; all_goals with_reducible rfl)
          (try simp only [Act.put, List.setIfInBounds_toArray, List.set_cons_zero, List.set_cons_succ])
          refine wpAnyH_ready (rs := [25]) (by kernel_rfl) (by simp) ?_
          refine (AllReadyH.cons (by rw [List.getElem?_toArray]; rfl) (fun K hK => ?_) AllReadyH.nil)
          go_simp
          (have N := BoxL.new v false 0 0 0 39); (have hjB := B.size); (have hjS : b < v.heap.size := cb); (have hjO : kO < v.heap.size := Oc0); clear Oc0 Oc1 Oc2 Oc3 Oc4 Oc5 Oc6 Oc7 Oc8 ci1 ci2 ck2 cj1 cj2 cb; (replace O := O.alloc (.cells #[.bool false, .int .i64 0, .int .i64 0, .int .i64 0] 39)); (replace S := S.alloc6 (.cells #[.bool false, .int .i64 0, .int .i64 0, .int .i64 0] 39)); (replace B := B.alloc B.size (.cells #[.bool false, .int .i64 0, .int .i64 0, .int .i64 0] 39)); (generalize v.alloc (.cells #[.bool false, .int .i64 0, .int .i64 0, .int .i64 0] 39) = v2 at *); (obtain ⟨Oc0, Oc1, Oc2, Oc3, Oc4, Oc5, Oc6, Oc7, Oc8⟩ := id O); (have ci1 := (S.2 i him).1); (have ci2 := (S.2 i him).2); (have ck2 := (S.2 k hkm).2); (have cj1 := (S.2 j hjm).1); (have cj2 := (S.2 j hjm).2); (have cb := S.1); (obtain ⟨Nc0, Nc1, Nc2, Nc3, Nc4, Nc5, Nc6, Nc7, Nc8⟩ := id N)
          refine hK.out _ _ ?_ (fun hHeld => ?_)
          · first | exact ⟨ci1, ci2⟩ | (simp (maxDischargeDepth := 6) [go_sem, *]; done)
          clear hK K
          (try simp only [Act.put, List.setIfInBounds_toArray, List.set_cons_zero, List.set_cons_succ])
          refine wpAnyH_ready (rs := [26]) (by kernel_rfl) (by simp) ?_
          refine (AllReadyH.cons (by rw [List.getElem?_toArray]; rfl) (fun K hK => ?_) AllReadyH.nil)
          go_simp
          refine hK.out _ _ ?_ (fun hHeld => ?_)
          · first | exact ⟨ci1, ci2⟩ | (simp (maxDischargeDepth := 6) [go_sem, *]; done)
          clear hK K
          (try simp only [Act.put, List.setIfInBounds_toArray, List.set_cons_zero, List.set_cons_succ])
          refine wpAnyH_done (by kernel_rfl) ?_ _
          go_wp2_with fail
          go_meet
          case rel => exact ⟨_, _, _, rfl, lo_le6 i1 i2 y40 y41, hi_ge6 i1 i2 y50 y51, N.set true _ _ _, hjO, hjS, O.setLO (Nat.ne_of_gt hjO) _ _ _ _, S.setLO (Nat.ne_of_gt hjS) _ _ _ _, Below.setL B hjB _ _ _ _⟩
        · go_simp
          (have N := BoxL.new v false 0 0 0 39); (have hjB := B.size); (have hjS : b < v.heap.size := cb); (have hjO : kO < v.heap.size := Oc0); clear Oc0 Oc1 Oc2 Oc3 Oc4 Oc5 Oc6 Oc7 Oc8 ci1 ci2 ck2 cj1 cj2 cb; (replace O := O.alloc (.cells #[.bool false, .int .i64 0, .int .i64 0, .int .i64 0] 39)); (replace S := S.alloc6 (.cells #[.bool false, .int .i64 0, .int .i64 0, .int .i64 0] 39)); (replace B := B.alloc B.size (.cells #[.bool false, .int .i64 0, .int .i64 0, .int .i64 0] 39)); (generalize v.alloc (.cells #[.bool false, .int .i64 0, .int .i64 0, .int .i64 0] 39) = v2 at *); (obtain ⟨Oc0, Oc1, Oc2, Oc3, Oc4, Oc5, Oc6, Oc7, Oc8⟩ := id O); (have ci1 := (S.2 i him).1); (have ci2 := (S.2 i him).2); (have ck2 := (S.2 k hkm).2); (have cj1 := (S.2 j hjm).1); (have cj2 := (S.2 j hjm).2); (have cb := S.1); (obtain ⟨Nc0, Nc1, Nc2, Nc3, Nc4, Nc5, Nc6, Nc7, Nc8⟩ := id N)
          refine hK.out _ _ ?_ (fun hHeld => ?_)
          · first | exact ⟨ci1, ci2⟩ | (simp (maxDischargeDepth := 6) [go_sem, *]; done)
          clear hK K
          (try simp only [Act.put, List.setIfInBounds_toArray, List.set_cons_zero, List.set_cons_succ])
          refine wpAnyH_ready (rs := [15]) (by kernel_rfl) (by simp) ?_
          refine (AllReadyH.cons (by rw [List.getElem?_toArray]; rfl) (fun K hK => ?_) AllReadyH.nil)
          go_simp
          refine (at_any a0 n0 c0 5 w.heap.size _ hn0 (by decide) (HC.out.below B)).mono ?_; rintro e w' ⟨y5, rfl, y50, y51, rfl⟩
          (try go_wp2_with fail)
          refine hK.out _ _ ?_ (fun hHeld => ?_)
          · first | exact ⟨ci1, ci2⟩ | (simp (maxDischargeDepth := 6) [go_sem, *]; done)
          clear hK K
          (try simp only [Act.put, List.setIfInBounds_toArray, List.set_cons_zero, List.set_cons_succ])
          refine wpAnyH_take (i := 16) (v := ?_) (by rw [List.getElem?_toArray]; rfl) (by kernel_rfl) (by kernel_rfl) (by kernel_rfl) (by intro _ _ _ h; exact h) (Or.inl ⟨by rfl, ?_⟩) (by assumption) ?_
          rotate_left
          · (intro w hSw; (try dsimp only at hSw); go_simp; all_goals with_reducible rfl)
          (try simp only [Act.put, List.setIfInBounds_toArray, List.set_cons_zero, List.set_cons_succ])
          refine wpAnyH_take (i := 17) (v := ?_) (by rw [List.getElem?_toArray]; rfl) (by kernel_rfl) (by kernel_rfl) (by kernel_rfl) (by intro _ _ _ h; exact h) (Or.inl ⟨by rfl, ?_⟩) (by assumption) ?_
          rotate_left
          · (intro w hSw; (try dsimp only at hSw); go_simp; all_goals with_reducible rfl)
          (try simp only [Act.put, List.setIfInBounds_toArray, List.set_cons_zero, List.set_cons_succ])
          refine wpAnyH_take (i := 18) (v := ?_) (by rw [List.getElem?_toArray]; rfl) (by kernel_rfl) (by kernel_rfl) (by kernel_rfl) (by intro _ _ _ h; exact h) (Or.inl ⟨by rfl, ?_⟩) (by assumption) ?_
          rotate_left
          · (intro w hSw; (try dsimp only at hSw); go_simp; all_goals with_reducible rfl)
          (try simp only [Act.put, List.setIfInBounds_toArray, List.set_cons_zero, List.set_cons_succ])
          refine wpAnyH_take (i := 24) (v := ?_) (by rw [List.getElem?_toArray]; rfl) (by kernel_rfl) (by kernel_rfl) (by kernel_rfl) (by intro _ _ _ h; exact h) (Or.inl ⟨by rfl, ?_⟩) (by assumption) ?_
          rotate_left
          · (intro w hSw; (try dsimp only at hSw); go_simp; all_goals with_reducible rfl)
          (try simp only [Act.put, List.setIfInBounds_toArray, List.set_cons_zero, List.set_cons_succ])
          refine wpAnyH_ready (rs := [26]) (by kernel_rfl) (by simp) ?_
          refine (AllReadyH.cons (by rw [List.getElem?_toArray]; rfl) (fun K hK => ?_) AllReadyH.nil)
          go_simp
          refine hK.out _ _ ?_ (fun hHeld => ?_)
          · first | exact ⟨ci1, ci2⟩ | (simp (maxDischargeDepth := 6) [go_sem, *]; done)
          clear hK K
          (try simp only [Act.put, List.setIfInBounds_toArray, List.set_cons_zero, List.set_cons_succ])
          refine wpAnyH_done (by kernel_rfl) ?_ _
          go_wp2_with fail
          go_meet
          case rel => exact ⟨_, _, _, rfl, lo_le6 i1 i2 y40 y41, hi_ge6 i1 i2 y50 y51, N.set true _ _ _, hjO, hjS, O.setLO (Nat.ne_of_gt hjO) _ _ _ _, S.setLO (Nat.ne_of_gt hjS) _ _ _ _, Below.setL B hjB _ _ _ _⟩
      · go_simp
        (have N := BoxL.new v false 0 0 0 39); (have hjB := B.size); (have hjS : b < v.heap.size := cb); (have hjO : kO < v.heap.size := Oc0); clear Oc0 Oc1 Oc2 Oc3 Oc4 Oc5 Oc6 Oc7 Oc8 ci1 ci2 ck2 cj1 cj2 cb; (replace O := O.alloc (.cells #[.bool false, .int .i64 0, .int .i64 0, .int .i64 0] 39)); (replace S := S.alloc6 (.cells #[.bool false, .int .i64 0, .int .i64 0, .int .i64 0] 39)); (replace B := B.alloc B.size (.cells #[.bool false, .int .i64 0, .int .i64 0, .int .i64 0] 39)); (generalize v.alloc (.cells #[.bool false, .int .i64 0, .int .i64 0, .int .i64 0] 39) = v2 at *); (obtain ⟨Oc0, Oc1, Oc2, Oc3, Oc4, Oc5, Oc6, Oc7, Oc8⟩ := id O); (have ci1 := (S.2 i him).1); (have ci2 := (S.2 i him).2); (have ck2 := (S.2 k hkm).2); (have cj1 := (S.2 j hjm).1); (have cj2 := (S.2 j hjm).2); (have cb := S.1); (obtain ⟨Nc0, Nc1, Nc2, Nc3, Nc4, Nc5, Nc6, Nc7, Nc8⟩ := id N)
        refine hK.out _ _ ?_ (fun hHeld => ?_)
        · first | exact ⟨ci1, ci2⟩ | (simp (maxDischargeDepth := 6) [go_sem, *]; done)
        clear hK K
        (try simp only [Act.put, List.setIfInBounds_toArray, List.set_cons_zero, List.set_cons_succ])
        refine wpAnyH_ready (rs := [6]) (by kernel_rfl) (by simp) ?_
        refine (AllReadyH.cons (by rw [List.getElem?_toArray]; rfl) (fun K hK => ?_) AllReadyH.nil)
        go_simp
        refine (at_any a0 n0 c0 4 w.heap.size _ hn0 (by decide) (HC.out.below B)).mono ?_; rintro e w' ⟨y4, rfl, y40, y41, rfl⟩
        (try go_wp2_with fail)
        refine hK.out _ _ ?_ (fun hHeld => ?_)
        · first | exact ⟨ci1, ci2⟩ | (simp (maxDischargeDepth := 6) [go_sem, *]; done)
        clear hK K
        (try simp only [Act.put, List.setIfInBounds_toArray, List.set_cons_zero, List.set_cons_succ])
        refine wpAnyH_take (i := 7) (v := ?_) (by rw [List.getElem?_toArray]; rfl) (by kernel_rfl) (by kernel_rfl) (by kernel_rfl) (by intro _ _ _ h; exact h) (Or.inl ⟨by rfl, ?_⟩) (by assumption) ?_
        rotate_left
        · (intro w hSw; (try dsimp only at hSw); go_simp; all_goals with_reducible rfl)
        (try simp only [Act.put, List.setIfInBounds_toArray, List.set_cons_zero, List.set_cons_succ])
        refine wpAnyH_take (i := 8) (v := ?_) (by rw [List.getElem?_toArray]; rfl) (by kernel_rfl) (by kernel_rfl) (by kernel_rfl) (by intro _ _ _ h; exact h) (Or.inl ⟨by rfl, ?_⟩) (by assumption) ?_
        rotate_left
        · (intro w hSw; (try dsimp only at hSw); go_simp; all_goals with_reducible rfl)
        (try simp only [Act.put, List.setIfInBounds_toArray, List.set_cons_zero, List.set_cons_succ])
        refine wpAnyH_ready (rs := [15]) (by kernel_rfl) (by simp) ?_
        refine (AllReadyH.cons (by rw [List.getElem?_toArray]; rfl) (fun K hK => ?_) AllReadyH.nil)
        go_simp
        refine (at_any a0 n0 c0 5 w.heap.size _ hn0 (by decide) (HC.out.below B)).mono ?_; rintro e w' ⟨y5, rfl, y50, y51, rfl⟩
        (try go_wp2_with fail)
        refine hK.out _ _ ?_ (fun hHeld => ?_)
        · first | exact ⟨ci1, ci2⟩ | (simp (maxDischargeDepth := 6) [go_sem, *]; done)
        clear hK K
        (try simp only [Act.put, List.setIfInBounds_toArray, List.set_cons_zero, List.set_cons_succ])
        refine wpAnyH_take (i := 16) (v := ?_) (by rw [List.getElem?_toArray]; rfl) (by kernel_rfl) (by kernel_rfl) (by kernel_rfl) (by intro _ _ _ h; exact h) (Or.inl ⟨by rfl, ?_⟩) (by assumption) ?_
        rotate_left
        · (intro w hSw; (try dsimp only at hSw); go_simp; all_goals with_reducible rfl)
        (try simp only [Act.put, List.setIfInBounds_toArray, List.set_cons_zero, List.set_cons_succ])
        refine wpAnyH_take (i := 17) (v := ?_) (by rw [List.getElem?_toArray]; rfl) (by kernel_rfl) (by kernel_rfl) (by kernel_rfl) (by intro _ _ _ h; exact h) (Or.inl ⟨by rfl, ?_⟩) (by assumption) ?_
        rotate_left
        · (intro w hSw; (try dsimp only at hSw); go_simp; all_goals with_reducible rfl)
        (try simp only [Act.put, List.setIfInBounds_toArray, List.set_cons_zero, List.set_cons_succ])
        refine wpAnyH_take (i := 18) (v := ?_) (by rw [List.getElem?_toArray]; rfl) (by kernel_rfl) (by kernel_rfl) (by kernel_rfl) (by intro _ _ _ h; exact h) (Or.inl ⟨by rfl, ?_⟩) (by assumption) ?_
        rotate_left
        · (intro w hSw; (try dsimp only at hSw); go_simp; all_goals with_reducible rfl)
        (try simp only [Act.put, List.setIfInBounds_toArray, List.set_cons_zero, List.set_cons_succ])
        refine wpAnyH_take (i := 24) (v := ?_) (by rw [List.getElem?_toArray]; rfl) (by kernel_rfl) (by kernel_rfl) (by kernel_rfl) (by intro _ _ _ h; exact h) (Or.inl ⟨by rfl, ?_⟩) (by assumption) ?_
        rotate_left
        · (intro w hSw; (try dsimp only at hSw); go_simp; all_goals with_reducible rfl)
        (try simp only [Act.put, List.setIfInBounds_toArray, List.set_cons_zero, List.set_cons_succ])
        refine wpAnyH_ready (rs := [26]) (by kernel_rfl) (by simp) ?_
        refine (AllReadyH.cons (by rw [List.getElem?_toArray]; rfl) (fun K hK => ?_) AllReadyH.nil)
        go_simp
        refine hK.out _ _ ?_ (fun hHeld => ?_)
        · first | exact ⟨ci1, ci2⟩ | (simp (maxDischargeDepth := 6) [go_sem, *]; done)
        clear hK K
        (try simp only [Act.put, List.setIfInBounds_toArray, List.set_cons_zero, List.set_cons_succ])
        refine wpAnyH_done (by kernel_rfl) ?_ _
        go_wp2_with fail
        go_meet
        case rel => exact ⟨_, _, _, rfl, lo_le6 i1 i2 y40 y41, hi_ge6 i1 i2 y50 y51, N.set true _ _ _, hjO, hjS, O.setLO (Nat.ne_of_gt hjO) _ _ _ _, S.setLO (Nat.ne_of_gt hjS) _ _ _ _, Below.setL B hjB _ _ _ _⟩
  case rest =>
    clear Oc0 Oc1 Oc2 Oc3 Oc4 Oc5 Oc6 Oc7 Oc8 ci1 ci2 ck2 cj1 cj2 cb
    clear O S B hi hr hr2 hjj hkk hlz hlz' hlz2 z0 z1 z0' z1' z02 z12 HC hl0 hd
    obtain ⟨jL, lo, hi, rfl, g1, g2, L, hLO, hLb, O, S, B⟩ := hcut
    generalize wc = v at *
    have HN := fun (hz : crC true lo hi (f i).2 x y (f j).2 = 0) => carry_nums HR1.out hik hkj hjm g1 g2 hz
    replace HN : Hid (crC true lo hi (f i).2 x y (f j).2 = 0 → _) := HN
    have C1 := fun w' => implCarryOn_any true lo hi (f i).2 x y (f j).2 w'
    have C2 := fun w' => specCarryOn_any true lo hi (f i).2 x y (f j).2 w'
    have C3 := fun w' => implRebase_any true lo hi (f i).2 x y (f k).2 w'
    have C4 := fun w' => implCarryOn_any true (crL true lo hi (f i).2 x y (f k).2) (crH true lo hi (f i).2 x y (f k).2) (f k).2 x y (f j).2 w'
    generalize crL true (crL true lo hi (f i).2 x y (f k).2) (crH true lo hi (f i).2 x y (f k).2) (f k).2 x y (f j).2 = z1 at *
    generalize crH true (crL true lo hi (f i).2 x y (f k).2) (crH true lo hi (f i).2 x y (f k).2) (f k).2 x y (f j).2 = z2 at *
    generalize crC true (crL true lo hi (f i).2 x y (f k).2) (crH true lo hi (f i).2 x y (f k).2) (f k).2 x y (f j).2 = z3 at *
    unfold rbB at C3
    generalize crL true lo hi (f i).2 x y (f k).2 = p1 at *
    generalize crH true lo hi (f i).2 x y (f k).2 = p2 at *
    generalize crC true lo hi (f i).2 x y (f k).2 = p3 at *
    generalize crL true lo hi (f i).2 x y (f j).2 = q1 at *
    generalize crH true lo hi (f i).2 x y (f j).2 = q2 at *
    generalize crC true lo hi (f i).2 x y (f j).2 = q3 at *
    (obtain ⟨Oc0, Oc1, Oc2, Oc3, Oc4, Oc5, Oc6, Oc7, Oc8⟩ := id O); (obtain ⟨Lc0, Lc1, Lc2, Lc3, Lc4, Lc5, Lc6, Lc7, Lc8⟩ := id L); (have ci1 := (S.2 i him).1); (have ci2 := (S.2 i him).2); (have ck2 := (S.2 k hkm).2); (have cj1 := (S.2 j hjm).1); (have cj2 := (S.2 j hjm).2); (have cb := S.1)
    go_wp2_with fail
    go_cut [13, 14] (fun sa sb wx => ∃ jA : Nat, sa = .pointer (some ⟨jA, 0, none⟩) ∧ sb = .int .i64 q3 ∧ Bx wx jA q1 q2 ∧ b < jA ∧ kO < jA ∧ jL < jA ∧ Box4 wx kO x y t u ∧ BoxL wx jL true lo hi (f i).2 ∧ Prs wx b off l f ∧ Below w.heap.size w wx)
    case first =>
      as_aux_lemma =>
        refine wp_region_held_drew (S := (fun w' => w'.cell? ⟨jL, 0, none⟩ = some (.bool true) ∧ w'.cell? ⟨jL, 1, none⟩ = some (.int .i64 lo) ∧ w'.cell? ⟨jL, 2, none⟩ = some (.int .i64 hi) ∧ w'.cell? ⟨jL, 3, none⟩ = some (.int .i64 (f i).2) ∧ w'.cell? ⟨kO, 0, none⟩ = some (.int .i64 x) ∧ w'.cell? ⟨kO, 1, none⟩ = some (.int .i64 y) ∧ w'.cell? ⟨b, off + j * 2 + 1, none⟩ = some (.int .i64 (f j).2))) (by kernel_rfl) ?_ (fun hHeld => ?_)
        · first | exact ⟨Lc1, Lc2, Lc3, Lc4, Oc1, Oc2, cj2⟩ | (simp (maxDischargeDepth := 6) [go_sem, *]; done)
        clear Oc0 Oc1 Oc2 Oc3 Oc4 Oc5 Oc6 Oc7 Oc8 Lc0 Lc1 Lc2 Lc3 Lc4 Lc5 Lc6 Lc7 Lc8 ci1 ci2 ck2 cj1 cj2 cb
        replace O := O.drew
        replace L := L.drew
        replace S := S.drew6
        replace B := B.drew
        generalize v.drew = v at *
        (obtain ⟨Oc0, Oc1, Oc2, Oc3, Oc4, Oc5, Oc6, Oc7, Oc8⟩ := id O); (obtain ⟨Lc0, Lc1, Lc2, Lc3, Lc4, Lc5, Lc6, Lc7, Lc8⟩ := id L); (have ci1 := (S.2 i him).1); (have ci2 := (S.2 i him).2); (have ck2 := (S.2 k hkm).2); (have cj1 := (S.2 j hjm).1); (have cj2 := (S.2 j hjm).2); (have cb := S.1)
        refine wpAnyH_take (i := 0) (v := ?_) (by rw [List.getElem?_toArray]; rfl) (by kernel_rfl) (by kernel_rfl) (by kernel_rfl) (by intro _ _ _ h; exact h) (Or.inl ⟨by rfl, ?_⟩) (by assumption) ?_
        rotate_left
        · (intro w hSw; (try dsimp only at hSw); go_simp; all_goals with_reducible rfl)
        (try simp only [Act.put, List.setIfInBounds_toArray, List.set_cons_zero, List.set_cons_succ])
        refine wpAnyH_take (i := 1) (v := ?_) (by rw [List.getElem?_toArray]; rfl) (by kernel_rfl) (by kernel_rfl) (by kernel_rfl) (by intro _ _ _ h; exact h) (Or.inl ⟨by rfl, ?_⟩) (by assumption) ?_
        rotate_left
        · (intro w hSw; (try dsimp only at hSw); go_simp; all_goals with_reducible rfl)
        (try simp only [Act.put, List.setIfInBounds_toArray, List.set_cons_zero, List.set_cons_succ])
        refine wpAnyH_take (i := 2) (v := ?_) (by rw [List.getElem?_toArray]; rfl) (by kernel_rfl) (by kernel_rfl) (by kernel_rfl) (by intro _ _ _ h; exact h) (Or.inl ⟨by rfl, ?_⟩) (by assumption) ?_
        rotate_left
        · (intro w hSw; (try dsimp only at hSw); go_simp; all_goals with_reducible rfl)
        (try simp only [Act.put, List.setIfInBounds_toArray, List.set_cons_zero, List.set_cons_succ])
        refine wpAnyH_take (i := 3) (v := ?_) (by rw [List.getElem?_toArray]; rfl) (by kernel_rfl) (by kernel_rfl) (by kernel_rfl) (by intro _ _ _ h; exact h) (Or.inl ⟨by rfl, ?_⟩) (by assumption) ?_
        rotate_left
        · (intro w hSw; (try dsimp only at hSw); go_simp; all_goals with_reducible rfl)
        (try simp only [Act.put, List.setIfInBounds_toArray, List.set_cons_zero, List.set_cons_succ])
        refine wpAnyH_take (i := 4) (v := ?_) (by rw [List.getElem?_toArray]; rfl) (by kernel_rfl) (by kernel_rfl) (by kernel_rfl) (by intro _ _ _ h; exact h) (Or.inl ⟨by rfl, ?_⟩) (by assumption) ?_
        rotate_left
        · (intro w hSw; (try dsimp only at hSw); go_simp; all_goals with_reducible rfl)
        (try simp only [Act.put, List.setIfInBounds_toArray, List.set_cons_zero, List.set_cons_succ])
        refine wpAnyH_take (i := 5) (v := ?_) (by rw [List.getElem?_toArray]; rfl) (by kernel_rfl) (by kernel_rfl) (by kernel_rfl) (by intro _ _ _ h; exact h) (Or.inl ⟨by rfl, ?_⟩) (by assumption) ?_
        rotate_left
        · (intro w hSw; (try dsimp only at hSw); go_simp; all_goals with_reducible rfl)
        (try simp only [Act.put, List.setIfInBounds_toArray, List.set_cons_zero, List.set_cons_succ])
        refine wpAnyH_take (i := 6) (v := ?_) (by rw [List.getElem?_toArray]; rfl) (by kernel_rfl) (by kernel_rfl) (by kernel_rfl) (by intro _ _ _ h; exact h) (Or.inl ⟨by rfl, ?_⟩) (by assumption) ?_
        rotate_left
        · (intro w hSw; (try dsimp only at hSw); go_simp; all_goals with_reducible rfl)
        (try simp only [Act.put, List.setIfInBounds_toArray, List.set_cons_zero, List.set_cons_succ])
        refine wpAnyH_take (i := 7) (v := ?_) (by rw [List.getElem?_toArray]; rfl) (by kernel_rfl) (by kernel_rfl) (by kernel_rfl) (by intro _ _ _ h; exact h) (Or.inl ⟨by rfl, ?_⟩) (by assumption) ?_
        rotate_left
        · (intro w hSw; (try dsimp only at hSw); go_simp; all_goals with_reducible rfl)
        (try simp only [Act.put, List.setIfInBounds_toArray, List.set_cons_zero, List.set_cons_succ])
        refine wpAnyH_ready (rs := [8, 12]) (by kernel_rfl) (by simp) ?_
        refine (AllReadyH.cons (by rw [List.getElem?_toArray]; rfl) (fun K hK => ?_) (AllReadyH.cons (by rw [List.getElem?_toArray]; rfl) (fun K hK => ?_) AllReadyH.nil))
        · go_simp
          refine (C1 _).mono ?_; rintro e v ⟨rfl, hb⟩; clear Oc0 Oc1 Oc2 Oc3 Oc4 Oc5 Oc6 Oc7 Oc8 Lc0 Lc1 Lc2 Lc3 Lc4 Lc5 Lc6 Lc7 Lc8 ci1 ci2 ck2 cj1 cj2 cb; (try clear Nc0 Nc1 Nc2 Nc3 Nc4); (replace O := O.below hb); (replace L := L.below hb); (replace S := S.belo6 hb); (try (replace N := N.below hb)); (replace B := B.trans (hb.mono B.size)); clear hb; (obtain ⟨Oc0, Oc1, Oc2, Oc3, Oc4, Oc5, Oc6, Oc7, Oc8⟩ := id O); (obtain ⟨Lc0, Lc1, Lc2, Lc3, Lc4, Lc5, Lc6, Lc7, Lc8⟩ := id L); (have ci1 := (S.2 i him).1); (have ci2 := (S.2 i him).2); (have ck2 := (S.2 k hkm).2); (have cj1 := (S.2 j hjm).1); (have cj2 := (S.2 j hjm).2); (have cb := S.1); (try (obtain ⟨Nc0, Nc1, Nc2, Nc3, Nc4⟩ := id N))
          (try go_wp2_with fail)
          refine hK.out _ _ ?_ (fun hHeld => ?_)
          · first | exact ⟨Lc1, Lc2, Lc3, Lc4, Oc1, Oc2, cj2⟩ | (simp (maxDischargeDepth := 6) [go_sem, *]; done)
          clear hK K
          (try simp only [Act.put, List.setIfInBounds_toArray, List.set_cons_zero, List.set_cons_succ])
          refine wpAnyH_take (i := 9) (v := ?_) (by rw [List.getElem?_toArray]; rfl) (by kernel_rfl) (by kernel_rfl) (by kernel_rfl) (by intro _ _ _ h; exact h) (Or.inl ⟨by rfl, ?_⟩) (by assumption) ?_
          rotate_left
          · (intro w hSw; (try dsimp only at hSw); go_simp; all_goals with_reducible rfl)
          (try simp only [Act.put, List.setIfInBounds_toArray, List.set_cons_zero, List.set_cons_succ])
          refine wpAnyH_take (i := 10) (v := ?_) (by rw [List.getElem?_toArray]; rfl) (by kernel_rfl) (by kernel_rfl) (by kernel_rfl) (by intro _ _ _ h; exact h) (Or.inl ⟨by rfl, ?_⟩) (by assumption) ?_
          rotate_left
          · (intro w hSw; (try dsimp only at hSw); go_simp; all_goals with_reducible rfl)
          (try simp only [Act.put, List.setIfInBounds_toArray, List.set_cons_zero, List.set_cons_succ])
          refine wpAnyH_take (i := 11) (v := ?_) (by rw [List.getElem?_toArray]; rfl) (by kernel_rfl) (by kernel_rfl) (by kernel_rfl) (by intro _ _ _ h; exact h) (Or.inl ⟨by rfl, ?_⟩) (by assumption) ?_
          rotate_left
          · (intro w hSw; (try dsimp only at hSw); go_simp; all_goals with_reducible rfl)
          (try simp only [Act.put, List.setIfInBounds_toArray, List.set_cons_zero, List.set_cons_succ])
          refine wpAnyH_ready (rs := [12]) (by kernel_rfl) (by simp) ?_
          refine (AllReadyH.cons (by rw [List.getElem?_toArray]; rfl) (fun K hK => ?_) AllReadyH.nil)
          go_simp
          (have N := Bx.new v 0 0 35); (have hjB := B.size); (have hjS : b < v.heap.size := cb); (have hjO : kO < v.heap.size := Oc0); (have hjL : jL < v.heap.size := Lc0); clear Oc0 Oc1 Oc2 Oc3 Oc4 Oc5 Oc6 Oc7 Oc8 Lc0 Lc1 Lc2 Lc3 Lc4 Lc5 Lc6 Lc7 Lc8 ci1 ci2 ck2 cj1 cj2 cb; (replace O := O.alloc (.cells #[.int .i64 0, .int .i64 0] 35)); (replace L := L.alloc (.cells #[.int .i64 0, .int .i64 0] 35)); (replace S := S.alloc6 (.cells #[.int .i64 0, .int .i64 0] 35)); (replace B := B.alloc B.size (.cells #[.int .i64 0, .int .i64 0] 35)); (generalize v.alloc (.cells #[.int .i64 0, .int .i64 0] 35) = v2 at *); (obtain ⟨Oc0, Oc1, Oc2, Oc3, Oc4, Oc5, Oc6, Oc7, Oc8⟩ := id O); (obtain ⟨Lc0, Lc1, Lc2, Lc3, Lc4, Lc5, Lc6, Lc7, Lc8⟩ := id L); (have ci1 := (S.2 i him).1); (have ci2 := (S.2 i him).2); (have ck2 := (S.2 k hkm).2); (have cj1 := (S.2 j hjm).1); (have cj2 := (S.2 j hjm).2); (have cb := S.1); (obtain ⟨Nc0, Nc1, Nc2, Nc3, Nc4⟩ := id N)
          refine hK.out _ _ ?_ (fun hHeld => ?_)
          · first | exact ⟨Lc1, Lc2, Lc3, Lc4, Oc1, Oc2, cj2⟩ | (simp (maxDischargeDepth := 6) [go_sem, *]; done)
          clear hK K
          (try simp only [Act.put, List.setIfInBounds_toArray, List.set_cons_zero, List.set_cons_succ])
          refine wpAnyH_ready (rs := [13]) (by kernel_rfl) (by simp) ?_
          refine (AllReadyH.cons (by rw [List.getElem?_toArray]; rfl) (fun K hK => ?_) AllReadyH.nil)
          go_simp
          refine hK.out _ _ ?_ (fun hHeld => ?_)
          · first | exact ⟨Lc1, Lc2, Lc3, Lc4, Oc1, Oc2, cj2⟩ | (simp (maxDischargeDepth := 6) [go_sem, *]; done)
          clear hK K
          (try simp only [Act.put, List.setIfInBounds_toArray, List.set_cons_zero, List.set_cons_succ])
          refine wpAnyH_take (i := 14) (v := ?_) (by rw [List.getElem?_toArray]; rfl) (by kernel_rfl) (by kernel_rfl) (by kernel_rfl) (by intro _ _ _ h; exact h) (Or.inl ⟨by rfl, ?_⟩) (by assumption) ?_
          rotate_left
          · (intro w hSw; (try dsimp only at hSw); go_simp; all_goals with_reducible rfl)
          (try simp only [Act.put, List.setIfInBounds_toArray, List.set_cons_zero, List.set_cons_succ])
          refine wpAnyH_done (by kernel_rfl) ?_ _
          go_wp2_with fail
          go_meet
          case rel => exact ⟨_, rfl, rfl, N.setI q1 q2, hjS, hjO, hjL, O.setIO (Nat.ne_of_gt hjO) _ _, L.setIO (Nat.ne_of_gt hjL) _ _, S.setIO (Nat.ne_of_gt hjS) _ _, Below.setI B hjB _ _⟩
        · go_simp
          (have N := Bx.new v 0 0 35); (have hjB := B.size); (have hjS : b < v.heap.size := cb); (have hjO : kO < v.heap.size := Oc0); (have hjL : jL < v.heap.size := Lc0); clear Oc0 Oc1 Oc2 Oc3 Oc4 Oc5 Oc6 Oc7 Oc8 Lc0 Lc1 Lc2 Lc3 Lc4 Lc5 Lc6 Lc7 Lc8 ci1 ci2 ck2 cj1 cj2 cb; (replace O := O.alloc (.cells #[.int .i64 0, .int .i64 0] 35)); (replace L := L.alloc (.cells #[.int .i64 0, .int .i64 0] 35)); (replace S := S.alloc6 (.cells #[.int .i64 0, .int .i64 0] 35)); (replace B := B.alloc B.size (.cells #[.int .i64 0, .int .i64 0] 35)); (generalize v.alloc (.cells #[.int .i64 0, .int .i64 0] 35) = v2 at *); (obtain ⟨Oc0, Oc1, Oc2, Oc3, Oc4, Oc5, Oc6, Oc7, Oc8⟩ := id O); (obtain ⟨Lc0, Lc1, Lc2, Lc3, Lc4, Lc5, Lc6, Lc7, Lc8⟩ := id L); (have ci1 := (S.2 i him).1); (have ci2 := (S.2 i him).2); (have ck2 := (S.2 k hkm).2); (have cj1 := (S.2 j hjm).1); (have cj2 := (S.2 j hjm).2); (have cb := S.1); (obtain ⟨Nc0, Nc1, Nc2, Nc3, Nc4⟩ := id N)
          refine hK.out _ _ ?_ (fun hHeld => ?_)
          · first | exact ⟨Lc1, Lc2, Lc3, Lc4, Oc1, Oc2, cj2⟩ | (simp (maxDischargeDepth := 6) [go_sem, *]; done)
          clear hK K
          (try simp only [Act.put, List.setIfInBounds_toArray, List.set_cons_zero, List.set_cons_succ])
          refine wpAnyH_ready (rs := [8]) (by kernel_rfl) (by simp) ?_
          refine (AllReadyH.cons (by rw [List.getElem?_toArray]; rfl) (fun K hK => ?_) AllReadyH.nil)
          go_simp
          refine (C1 _).mono ?_; rintro e v ⟨rfl, hb⟩; clear Oc0 Oc1 Oc2 Oc3 Oc4 Oc5 Oc6 Oc7 Oc8 Lc0 Lc1 Lc2 Lc3 Lc4 Lc5 Lc6 Lc7 Lc8 ci1 ci2 ck2 cj1 cj2 cb; (try clear Nc0 Nc1 Nc2 Nc3 Nc4); (replace O := O.below hb); (replace L := L.below hb); (replace S := S.belo6 hb); (try (replace N := N.below hb)); (replace B := B.trans (hb.mono B.size)); clear hb; (obtain ⟨Oc0, Oc1, Oc2, Oc3, Oc4, Oc5, Oc6, Oc7, Oc8⟩ := id O); (obtain ⟨Lc0, Lc1, Lc2, Lc3, Lc4, Lc5, Lc6, Lc7, Lc8⟩ := id L); (have ci1 := (S.2 i him).1); (have ci2 := (S.2 i him).2); (have ck2 := (S.2 k hkm).2); (have cj1 := (S.2 j hjm).1); (have cj2 := (S.2 j hjm).2); (have cb := S.1); (try (obtain ⟨Nc0, Nc1, Nc2, Nc3, Nc4⟩ := id N))
          (try go_wp2_with fail)
          refine hK.out _ _ ?_ (fun hHeld => ?_)
          · first | exact ⟨Lc1, Lc2, Lc3, Lc4, Oc1, Oc2, cj2⟩ | (simp (maxDischargeDepth := 6) [go_sem, *]; done)
          clear hK K
          (try simp only [Act.put, List.setIfInBounds_toArray, List.set_cons_zero, List.set_cons_succ])
          refine wpAnyH_take (i := 9) (v := ?_) (by rw [List.getElem?_toArray]; rfl) (by kernel_rfl) (by kernel_rfl) (by kernel_rfl) (by intro _ _ _ h; exact h) (Or.inl ⟨by rfl, ?_⟩) (by assumption) ?_
          rotate_left
          · (intro w hSw; (try dsimp only at hSw); go_simp; all_goals with_reducible rfl)
          (try simp only [Act.put, List.setIfInBounds_toArray, List.set_cons_zero, List.set_cons_succ])
          refine wpAnyH_take (i := 10) (v := ?_) (by rw [List.getElem?_toArray]; rfl) (by kernel_rfl) (by kernel_rfl) (by kernel_rfl) (by intro _ _ _ h; exact h) (Or.inl ⟨by rfl, ?_⟩) (by assumption) ?_
          rotate_left
          · (intro w hSw; (try dsimp only at hSw); go_simp; all_goals with_reducible rfl)
          (try simp only [Act.put, List.setIfInBounds_toArray, List.set_cons_zero, List.set_cons_succ])
          refine wpAnyH_take (i := 11) (v := ?_) (by rw [List.getElem?_toArray]; rfl) (by kernel_rfl) (by kernel_rfl) (by kernel_rfl) (by intro _ _ _ h; exact h) (Or.inl ⟨by rfl, ?_⟩) (by assumption) ?_
          rotate_left
          · (intro w hSw; (try dsimp only at hSw); go_simp; all_goals with_reducible rfl)
          (try simp only [Act.put, List.setIfInBounds_toArray, List.set_cons_zero, List.set_cons_succ])
          refine wpAnyH_ready (rs := [13]) (by kernel_rfl) (by simp) ?_
          refine (AllReadyH.cons (by rw [List.getElem?_toArray]; rfl) (fun K hK => ?_) AllReadyH.nil)
          go_simp
          refine hK.out _ _ ?_ (fun hHeld => ?_)
          · first | exact ⟨Lc1, Lc2, Lc3, Lc4, Oc1, Oc2, cj2⟩ | (simp (maxDischargeDepth := 6) [go_sem, *]; done)
          clear hK K
          (try simp only [Act.put, List.setIfInBounds_toArray, List.set_cons_zero, List.set_cons_succ])
          refine wpAnyH_take (i := 14) (v := ?_) (by rw [List.getElem?_toArray]; rfl) (by kernel_rfl) (by kernel_rfl) (by kernel_rfl) (by intro _ _ _ h; exact h) (Or.inl ⟨by rfl, ?_⟩) (by assumption) ?_
          rotate_left
          · (intro w hSw; (try dsimp only at hSw); go_simp; all_goals with_reducible rfl)
          (try simp only [Act.put, List.setIfInBounds_toArray, List.set_cons_zero, List.set_cons_succ])
          refine wpAnyH_done (by kernel_rfl) ?_ _
          go_wp2_with fail
          go_meet
          case rel => exact ⟨_, rfl, rfl, N.setI q1 q2, hjS, hjO, hjL, O.setIO (Nat.ne_of_gt hjO) _ _, L.setIO (Nat.ne_of_gt hjL) _ _, S.setIO (Nat.ne_of_gt hjS) _ _, Below.setI B hjB _ _⟩
    case rest =>
      clear Oc0 Oc1 Oc2 Oc3 Oc4 Oc5 Oc6 Oc7 Oc8 Lc0 Lc1 Lc2 Lc3 Lc4 Lc5 Lc6 Lc7 Lc8 ci1 ci2 ck2 cj1 cj2 cb
      clear O L S B
      obtain ⟨jA, rfl, rfl, A, hbA, hOA, hLA, O, L, S, B⟩ := hcut
      generalize wc = v at *
      (obtain ⟨Oc0, Oc1, Oc2, Oc3, Oc4, Oc5, Oc6, Oc7, Oc8⟩ := id O); (obtain ⟨Lc0, Lc1, Lc2, Lc3, Lc4, Lc5, Lc6, Lc7, Lc8⟩ := id L); (obtain ⟨Ac0, Ac1, Ac2, Ac3, Ac4⟩ := id A); (have ci1 := (S.2 i him).1); (have ci2 := (S.2 i him).2); (have ck2 := (S.2 k hkm).2); (have cj1 := (S.2 j hjm).1); (have cj2 := (S.2 j hjm).2); (have cb := S.1)
      go_wp2_with fail
      go_cut [15, 16] (fun sa sb wx => ∃ jW : Nat, sa = .pointer (some ⟨jW, 0, none⟩) ∧ sb = .int .i64 q3 ∧ Bx wx jW q1 q2 ∧ b < jW ∧ kO < jW ∧ jL < jW ∧ jA < jW ∧ Box4 wx kO x y t u ∧ BoxL wx jL true lo hi (f i).2 ∧ Bx wx jA q1 q2 ∧ Prs wx b off l f ∧ Below w.heap.size w wx)
      case first =>
        as_aux_lemma =>
          refine wp_region_held_drew (S := (fun w' => w'.cell? ⟨jL, 0, none⟩ = some (.bool true) ∧ w'.cell? ⟨jL, 1, none⟩ = some (.int .i64 lo) ∧ w'.cell? ⟨jL, 2, none⟩ = some (.int .i64 hi) ∧ w'.cell? ⟨jL, 3, none⟩ = some (.int .i64 (f i).2) ∧ w'.cell? ⟨kO, 0, none⟩ = some (.int .i64 x) ∧ w'.cell? ⟨kO, 1, none⟩ = some (.int .i64 y) ∧ w'.cell? ⟨b, off + j * 2 + 1, none⟩ = some (.int .i64 (f j).2))) (by kernel_rfl) ?_ (fun hHeld => ?_)
          · first | exact ⟨Lc1, Lc2, Lc3, Lc4, Oc1, Oc2, cj2⟩ | (simp (maxDischargeDepth := 6) [go_sem, *]; done)
          clear Oc0 Oc1 Oc2 Oc3 Oc4 Oc5 Oc6 Oc7 Oc8 Lc0 Lc1 Lc2 Lc3 Lc4 Lc5 Lc6 Lc7 Lc8 Ac0 Ac1 Ac2 Ac3 Ac4 ci1 ci2 ck2 cj1 cj2 cb
          replace O := O.drew
          replace L := L.drew
          replace A := A.drew
          replace S := S.drew6
          replace B := B.drew
          generalize v.drew = v at *
          (obtain ⟨Oc0, Oc1, Oc2, Oc3, Oc4, Oc5, Oc6, Oc7, Oc8⟩ := id O); (obtain ⟨Lc0, Lc1, Lc2, Lc3, Lc4, Lc5, Lc6, Lc7, Lc8⟩ := id L); (obtain ⟨Ac0, Ac1, Ac2, Ac3, Ac4⟩ := id A); (have ci1 := (S.2 i him).1); (have ci2 := (S.2 i him).2); (have ck2 := (S.2 k hkm).2); (have cj1 := (S.2 j hjm).1); (have cj2 := (S.2 j hjm).2); (have cb := S.1)
          refine wpAnyH_take (i := 0) (v := ?_) (by rw [List.getElem?_toArray]; rfl) (by kernel_rfl) (by kernel_rfl) (by kernel_rfl) (by intro _ _ _ h; exact h) (Or.inl ⟨by rfl, ?_⟩) (by assumption) ?_
          rotate_left
          · (intro w hSw; (try dsimp only at hSw); go_simp; all_goals with_reducible rfl)
          (try simp only [Act.put, List.setIfInBounds_toArray, List.set_cons_zero, List.set_cons_succ])
          refine wpAnyH_take (i := 1) (v := ?_) (by rw [List.getElem?_toArray]; rfl) (by kernel_rfl) (by kernel_rfl) (by kernel_rfl) (by intro _ _ _ h; exact h) (Or.inl ⟨by rfl, ?_⟩) (by assumption) ?_
          rotate_left
          · (intro w hSw; (try dsimp only at hSw); go_simp; all_goals with_reducible rfl)
          (try simp only [Act.put, List.setIfInBounds_toArray, List.set_cons_zero, List.set_cons_succ])
          refine wpAnyH_take (i := 2) (v := ?_) (by rw [List.getElem?_toArray]; rfl) (by kernel_rfl) (by kernel_rfl) (by kernel_rfl) (by intro _ _ _ h; exact h) (Or.inl ⟨by rfl, ?_⟩) (by assumption) ?_
          rotate_left
          · (intro w hSw; (try dsimp only at hSw); go_simp; all_goals with_reducible rfl)
          (try simp only [Act.put, List.setIfInBounds_toArray, List.set_cons_zero, List.set_cons_succ])
          refine wpAnyH_take (i := 3) (v := ?_) (by rw [List.getElem?_toArray]; rfl) (by kernel_rfl) (by kernel_rfl) (by kernel_rfl) (by intro _ _ _ h; exact h) (Or.inl ⟨by rfl, ?_⟩) (by assumption) ?_
          rotate_left
          · (intro w hSw; (try dsimp only at hSw); go_simp; all_goals with_reducible rfl)
          (try simp only [Act.put, List.setIfInBounds_toArray, List.set_cons_zero, List.set_cons_succ])
          refine wpAnyH_take (i := 4) (v := ?_) (by rw [List.getElem?_toArray]; rfl) (by kernel_rfl) (by kernel_rfl) (by kernel_rfl) (by intro _ _ _ h; exact h) (Or.inl ⟨by rfl, ?_⟩) (by assumption) ?_
          rotate_left
          · (intro w hSw; (try dsimp only at hSw); go_simp; all_goals with_reducible rfl)
          (try simp only [Act.put, List.setIfInBounds_toArray, List.set_cons_zero, List.set_cons_succ])
          refine wpAnyH_take (i := 5) (v := ?_) (by rw [List.getElem?_toArray]; rfl) (by kernel_rfl) (by kernel_rfl) (by kernel_rfl) (by intro _ _ _ h; exact h) (Or.inl ⟨by rfl, ?_⟩) (by assumption) ?_
          rotate_left
          · (intro w hSw; (try dsimp only at hSw); go_simp; all_goals with_reducible rfl)
          (try simp only [Act.put, List.setIfInBounds_toArray, List.set_cons_zero, List.set_cons_succ])
          refine wpAnyH_take (i := 6) (v := ?_) (by rw [List.getElem?_toArray]; rfl) (by kernel_rfl) (by kernel_rfl) (by kernel_rfl) (by intro _ _ _ h; exact h) (Or.inl ⟨by rfl, ?_⟩) (by assumption) ?_
          rotate_left
          · (intro w hSw; (try dsimp only at hSw); go_simp; all_goals with_reducible rfl)
          (try simp only [Act.put, List.setIfInBounds_toArray, List.set_cons_zero, List.set_cons_succ])
          refine wpAnyH_take (i := 7) (v := ?_) (by rw [List.getElem?_toArray]; rfl) (by kernel_rfl) (by kernel_rfl) (by kernel_rfl) (by intro _ _ _ h; exact h) (Or.inl ⟨by rfl, ?_⟩) (by assumption) ?_
          rotate_left
          · (intro w hSw; (try dsimp only at hSw); go_simp; all_goals with_reducible rfl)
          (try simp only [Act.put, List.setIfInBounds_toArray, List.set_cons_zero, List.set_cons_succ])
          refine wpAnyH_ready (rs := [8, 12]) (by kernel_rfl) (by simp) ?_
          refine (AllReadyH.cons (by rw [List.getElem?_toArray]; rfl) (fun K hK => ?_) (AllReadyH.cons (by rw [List.getElem?_toArray]; rfl) (fun K hK => ?_) AllReadyH.nil))
          · go_simp
            refine (C2 _).mono ?_; rintro e v ⟨rfl, hb⟩; clear Oc0 Oc1 Oc2 Oc3 Oc4 Oc5 Oc6 Oc7 Oc8 Lc0 Lc1 Lc2 Lc3 Lc4 Lc5 Lc6 Lc7 Lc8 Ac0 Ac1 Ac2 Ac3 Ac4 ci1 ci2 ck2 cj1 cj2 cb; (try clear Nc0 Nc1 Nc2 Nc3 Nc4); (replace O := O.below hb); (replace L := L.below hb); (replace A := A.below hb); (replace S := S.belo6 hb); (try (replace N := N.below hb)); (replace B := B.trans (hb.mono B.size)); clear hb; (obtain ⟨Oc0, Oc1, Oc2, Oc3, Oc4, Oc5, Oc6, Oc7, Oc8⟩ := id O); (obtain ⟨Lc0, Lc1, Lc2, Lc3, Lc4, Lc5, Lc6, Lc7, Lc8⟩ := id L); (obtain ⟨Ac0, Ac1, Ac2, Ac3, Ac4⟩ := id A); (have ci1 := (S.2 i him).1); (have ci2 := (S.2 i him).2); (have ck2 := (S.2 k hkm).2); (have cj1 := (S.2 j hjm).1); (have cj2 := (S.2 j hjm).2); (have cb := S.1); (try (obtain ⟨Nc0, Nc1, Nc2, Nc3, Nc4⟩ := id N))
            (try go_wp2_with fail)
            refine hK.out _ _ ?_ (fun hHeld => ?_)
            · first | exact ⟨Lc1, Lc2, Lc3, Lc4, Oc1, Oc2, cj2⟩ | (simp (maxDischargeDepth := 6) [go_sem, *]; done)
            clear hK K
            (try simp only [Act.put, List.setIfInBounds_toArray, List.set_cons_zero, List.set_cons_succ])
            refine wpAnyH_take (i := 9) (v := ?_) (by rw [List.getElem?_toArray]; rfl) (by kernel_rfl) (by kernel_rfl) (by kernel_rfl) (by intro _ _ _ h; exact h) (Or.inl ⟨by rfl, ?_⟩) (by assumption) ?_
            rotate_left
            · (intro w hSw; (try dsimp only at hSw); go_simp; all_goals with_reducible rfl)
            (try simp only [Act.put, List.setIfInBounds_toArray, List.set_cons_zero, List.set_cons_succ])
            refine wpAnyH_take (i := 10) (v := ?_) (by rw [List.getElem?_toArray]; rfl) (by kernel_rfl) (by kernel_rfl) (by kernel_rfl) (by intro _ _ _ h; exact h) (Or.inl ⟨by rfl, ?_⟩) (by assumption) ?_
            rotate_left
            · (intro w hSw; (try dsimp only at hSw); go_simp; all_goals with_reducible rfl)
            (try simp only [Act.put, List.setIfInBounds_toArray, List.set_cons_zero, List.set_cons_succ])
            refine wpAnyH_take (i := 11) (v := ?_) (by rw [List.getElem?_toArray]; rfl) (by kernel_rfl) (by kernel_rfl) (by kernel_rfl) (by intro _ _ _ h; exact h) (Or.inl ⟨by rfl, ?_⟩) (by assumption) ?_
            rotate_left
            · (intro w hSw; (try dsimp only at hSw); go_simp; all_goals with_reducible rfl)
            (try simp only [Act.put, List.setIfInBounds_toArray, List.set_cons_zero, List.set_cons_succ])
            refine wpAnyH_ready (rs := [12]) (by kernel_rfl) (by simp) ?_
            refine (AllReadyH.cons (by rw [List.getElem?_toArray]; rfl) (fun K hK => ?_) AllReadyH.nil)
            go_simp
            (have N := Bx.new v 0 0 35); (have hjB := B.size); (have hjS : b < v.heap.size := cb); (have hjO : kO < v.heap.size := Oc0); (have hjL : jL < v.heap.size := Lc0); (have hjA : jA < v.heap.size := Ac0); clear Oc0 Oc1 Oc2 Oc3 Oc4 Oc5 Oc6 Oc7 Oc8 Lc0 Lc1 Lc2 Lc3 Lc4 Lc5 Lc6 Lc7 Lc8 Ac0 Ac1 Ac2 Ac3 Ac4 ci1 ci2 ck2 cj1 cj2 cb; (replace O := O.alloc (.cells #[.int .i64 0, .int .i64 0] 35)); (replace L := L.alloc (.cells #[.int .i64 0, .int .i64 0] 35)); (replace A := A.alloc (.cells #[.int .i64 0, .int .i64 0] 35)); (replace S := S.alloc6 (.cells #[.int .i64 0, .int .i64 0] 35)); (replace B := B.alloc B.size (.cells #[.int .i64 0, .int .i64 0] 35)); (generalize v.alloc (.cells #[.int .i64 0, .int .i64 0] 35) = v2 at *); (obtain ⟨Oc0, Oc1, Oc2, Oc3, Oc4, Oc5, Oc6, Oc7, Oc8⟩ := id O); (obtain ⟨Lc0, Lc1, Lc2, Lc3, Lc4, Lc5, Lc6, Lc7, Lc8⟩ := id L); (obtain ⟨Ac0, Ac1, Ac2, Ac3, Ac4⟩ := id A); (have ci1 := (S.2 i him).1); (have ci2 := (S.2 i him).2); (have ck2 := (S.2 k hkm).2); (have cj1 := (S.2 j hjm).1); (have cj2 := (S.2 j hjm).2); (have cb := S.1); (obtain ⟨Nc0, Nc1, Nc2, Nc3, Nc4⟩ := id N)
            refine hK.out _ _ ?_ (fun hHeld => ?_)
            · first | exact ⟨Lc1, Lc2, Lc3, Lc4, Oc1, Oc2, cj2⟩ | (simp (maxDischargeDepth := 6) [go_sem, *]; done)
            clear hK K
            (try simp only [Act.put, List.setIfInBounds_toArray, List.set_cons_zero, List.set_cons_succ])
            refine wpAnyH_ready (rs := [13]) (by kernel_rfl) (by simp) ?_
            refine (AllReadyH.cons (by rw [List.getElem?_toArray]; rfl) (fun K hK => ?_) AllReadyH.nil)
            go_simp
            refine hK.out _ _ ?_ (fun hHeld => ?_)
            · first | exact ⟨Lc1, Lc2, Lc3, Lc4, Oc1, Oc2, cj2⟩ | (simp (maxDischargeDepth := 6) [go_sem, *]; done)
            clear hK K
            (try simp only [Act.put, List.setIfInBounds_toArray, List.set_cons_zero, List.set_cons_succ])
            refine wpAnyH_take (i := 14) (v := ?_) (by rw [List.getElem?_toArray]; rfl) (by kernel_rfl) (by kernel_rfl) (by kernel_rfl) (by intro _ _ _ h; exact h) (Or.inl ⟨by rfl, ?_⟩) (by assumption) ?_
            rotate_left
            · (intro w hSw; (try dsimp only at hSw); go_simp; all_goals with_reducible rfl)
            (try simp only [Act.put, List.setIfInBounds_toArray, List.set_cons_zero, List.set_cons_succ])
            refine wpAnyH_done (by kernel_rfl) ?_ _
            go_wp2_with fail
            go_meet
            case rel => exact ⟨_, rfl, rfl, N.setI q1 q2, hjS, hjO, hjL, hjA, O.setIO (Nat.ne_of_gt hjO) _ _, L.setIO (Nat.ne_of_gt hjL) _ _, A.setIO (Nat.ne_of_gt hjA) _ _, S.setIO (Nat.ne_of_gt hjS) _ _, Below.setI B hjB _ _⟩
          · go_simp
            (have N := Bx.new v 0 0 35); (have hjB := B.size); (have hjS : b < v.heap.size := cb); (have hjO : kO < v.heap.size := Oc0); (have hjL : jL < v.heap.size := Lc0); (have hjA : jA < v.heap.size := Ac0); clear Oc0 Oc1 Oc2 Oc3 Oc4 Oc5 Oc6 Oc7 Oc8 Lc0 Lc1 Lc2 Lc3 Lc4 Lc5 Lc6 Lc7 Lc8 Ac0 Ac1 Ac2 Ac3 Ac4 ci1 ci2 ck2 cj1 cj2 cb; (replace O := O.alloc (.cells #[.int .i64 0, .int .i64 0] 35)); (replace L := L.alloc (.cells #[.int .i64 0, .int .i64 0] 35)); (replace A := A.alloc (.cells #[.int .i64 0, .int .i64 0] 35)); (replace S := S.alloc6 (.cells #[.int .i64 0, .int .i64 0] 35)); (replace B := B.alloc B.size (.cells #[.int .i64 0, .int .i64 0] 35)); (generalize v.alloc (.cells #[.int .i64 0, .int .i64 0] 35) = v2 at *); (obtain ⟨Oc0, Oc1, Oc2, Oc3, Oc4, Oc5, Oc6, Oc7, Oc8⟩ := id O); (obtain ⟨Lc0, Lc1, Lc2, Lc3, Lc4, Lc5, Lc6, Lc7, Lc8⟩ := id L); (obtain ⟨Ac0, Ac1, Ac2, Ac3, Ac4⟩ := id A); (have ci1 := (S.2 i him).1); (have ci2 := (S.2 i him).2); (have ck2 := (S.2 k hkm).2); (have cj1 := (S.2 j hjm).1); (have cj2 := (S.2 j hjm).2); (have cb := S.1); (obtain ⟨Nc0, Nc1, Nc2, Nc3, Nc4⟩ := id N)
            refine hK.out _ _ ?_ (fun hHeld => ?_)
            · first | exact ⟨Lc1, Lc2, Lc3, Lc4, Oc1, Oc2, cj2⟩ | (simp (maxDischargeDepth := 6) [go_sem, *]; done)
            clear hK K
            (try simp only [Act.put, List.setIfInBounds_toArray, List.set_cons_zero, List.set_cons_succ])
            refine wpAnyH_ready (rs := [8]) (by kernel_rfl) (by simp) ?_
            refine (AllReadyH.cons (by rw [List.getElem?_toArray]; rfl) (fun K hK => ?_) AllReadyH.nil)
            go_simp
            refine (C2 _).mono ?_; rintro e v ⟨rfl, hb⟩; clear Oc0 Oc1 Oc2 Oc3 Oc4 Oc5 Oc6 Oc7 Oc8 Lc0 Lc1 Lc2 Lc3 Lc4 Lc5 Lc6 Lc7 Lc8 Ac0 Ac1 Ac2 Ac3 Ac4 ci1 ci2 ck2 cj1 cj2 cb; (try clear Nc0 Nc1 Nc2 Nc3 Nc4); (replace O := O.below hb); (replace L := L.below hb); (replace A := A.below hb); (replace S := S.belo6 hb); (try (replace N := N.below hb)); (replace B := B.trans (hb.mono B.size)); clear hb; (obtain ⟨Oc0, Oc1, Oc2, Oc3, Oc4, Oc5, Oc6, Oc7, Oc8⟩ := id O); (obtain ⟨Lc0, Lc1, Lc2, Lc3, Lc4, Lc5, Lc6, Lc7, Lc8⟩ := id L); (obtain ⟨Ac0, Ac1, Ac2, Ac3, Ac4⟩ := id A); (have ci1 := (S.2 i him).1); (have ci2 := (S.2 i him).2); (have ck2 := (S.2 k hkm).2); (have cj1 := (S.2 j hjm).1); (have cj2 := (S.2 j hjm).2); (have cb := S.1); (try (obtain ⟨Nc0, Nc1, Nc2, Nc3, Nc4⟩ := id N))
            (try go_wp2_with fail)
            refine hK.out _ _ ?_ (fun hHeld => ?_)
            · first | exact ⟨Lc1, Lc2, Lc3, Lc4, Oc1, Oc2, cj2⟩ | (simp (maxDischargeDepth := 6) [go_sem, *]; done)
            clear hK K
            (try simp only [Act.put, List.setIfInBounds_toArray, List.set_cons_zero, List.set_cons_succ])
            refine wpAnyH_take (i := 9) (v := ?_) (by rw [List.getElem?_toArray]; rfl) (by kernel_rfl) (by kernel_rfl) (by kernel_rfl) (by intro _ _ _ h; exact h) (Or.inl ⟨by rfl, ?_⟩) (by assumption) ?_
            rotate_left
            · (intro w hSw; (try dsimp only at hSw); go_simp; all_goals with_reducible rfl)
            (try simp only [Act.put, List.setIfInBounds_toArray, List.set_cons_zero, List.set_cons_succ])
            refine wpAnyH_take (i := 10) (v := ?_) (by rw [List.getElem?_toArray]; rfl) (by kernel_rfl) (by kernel_rfl) (by kernel_rfl) (by intro _ _ _ h; exact h) (Or.inl ⟨by rfl, ?_⟩) (by assumption) ?_
            rotate_left
            · (intro w hSw; (try dsimp only at hSw); go_simp; all_goals with_reducible rfl)
            (try simp only [Act.put, List.setIfInBounds_toArray, List.set_cons_zero, List.set_cons_succ])
            refine wpAnyH_take (i := 11) (v := ?_) (by rw [List.getElem?_toArray]; rfl) (by kernel_rfl) (by kernel_rfl) (by kernel_rfl) (by intro _ _ _ h; exact h) (Or.inl ⟨by rfl, ?_⟩) (by assumption) ?_
            rotate_left
            · (intro w hSw; (try dsimp only at hSw); go_simp; all_goals with_reducible rfl)
            (try simp only [Act.put, List.setIfInBounds_toArray, List.set_cons_zero, List.set_cons_succ])
            refine wpAnyH_ready (rs := [13]) (by kernel_rfl) (by simp) ?_
            refine (AllReadyH.cons (by rw [List.getElem?_toArray]; rfl) (fun K hK => ?_) AllReadyH.nil)
            go_simp
            refine hK.out _ _ ?_ (fun hHeld => ?_)
            · first | exact ⟨Lc1, Lc2, Lc3, Lc4, Oc1, Oc2, cj2⟩ | (simp (maxDischargeDepth := 6) [go_sem, *]; done)
            clear hK K
            (try simp only [Act.put, List.setIfInBounds_toArray, List.set_cons_zero, List.set_cons_succ])
            refine wpAnyH_take (i := 14) (v := ?_) (by rw [List.getElem?_toArray]; rfl) (by kernel_rfl) (by kernel_rfl) (by kernel_rfl) (by intro _ _ _ h; exact h) (Or.inl ⟨by rfl, ?_⟩) (by assumption) ?_
            rotate_left
            · (intro w hSw; (try dsimp only at hSw); go_simp; all_goals with_reducible rfl)
            (try simp only [Act.put, List.setIfInBounds_toArray, List.set_cons_zero, List.set_cons_succ])
            refine wpAnyH_done (by kernel_rfl) ?_ _
            go_wp2_with fail
            go_meet
            case rel => exact ⟨_, rfl, rfl, N.setI q1 q2, hjS, hjO, hjL, hjA, O.setIO (Nat.ne_of_gt hjO) _ _, L.setIO (Nat.ne_of_gt hjL) _ _, A.setIO (Nat.ne_of_gt hjA) _ _, S.setIO (Nat.ne_of_gt hjS) _ _, Below.setI B hjB _ _⟩
      case rest =>
        clear Oc0 Oc1 Oc2 Oc3 Oc4 Oc5 Oc6 Oc7 Oc8 Lc0 Lc1 Lc2 Lc3 Lc4 Lc5 Lc6 Lc7 Lc8 Ac0 Ac1 Ac2 Ac3 Ac4 ci1 ci2 ck2 cj1 cj2 cb
        clear O L A S B
        obtain ⟨jW, rfl, rfl, W, hbW, hOW, hLW, hAW, O, L, A, S, B⟩ := hcut
        clear W hbW hOW hLW hAW
        generalize wc = v at *
        (obtain ⟨Oc0, Oc1, Oc2, Oc3, Oc4, Oc5, Oc6, Oc7, Oc8⟩ := id O); (obtain ⟨Lc0, Lc1, Lc2, Lc3, Lc4, Lc5, Lc6, Lc7, Lc8⟩ := id L); (obtain ⟨Ac0, Ac1, Ac2, Ac3, Ac4⟩ := id A); (have ci1 := (S.2 i him).1); (have ci2 := (S.2 i him).2); (have ck2 := (S.2 k hkm).2); (have cj1 := (S.2 j hjm).1); (have cj2 := (S.2 j hjm).2); (have cb := S.1)
        by_cases hz' : ¬ q3 = 0
        · go_wp2_with fail
          go_ret
          exact ⟨rfl, B⟩
        have hz : q3 = 0 := Classical.not_not.mp hz'
        clear hz'
        obtain ⟨k1, k2, k3, k4, k5⟩ := HN.out hz
        subst hz k2 k3
        rw [show decide ((0 : Int) = 0) = true from rfl, sel_t rfl] at C3
        have D1 := fun w' => implHolds_any q1 q2 (f j).1 w'
        have D2 := fun w' => implHolds_any z1 z2 (f j).1 w'
        have D3 := fun w' => implWithin_any z1 z2 q1 q2 w'
        rw [k1] at D1
        rw [k4] at D2
        rw [k5] at D3
        clear HN k1 k4 k5 C1 C2 g1 g2
        go_wp2_with fail
        go_cut [17, 18] (fun sa sb wx => ∃ jP : Nat, sa = .pointer (some ⟨jP, 0, none⟩) ∧ sb = .int .i64 0 ∧ BoxL wx jP true p1 p2 (f k).2 ∧ b < jP ∧ kO < jP ∧ jA < jP ∧ Box4 wx kO x y t u ∧ Bx wx jA q1 q2 ∧ Prs wx b off l f ∧ Below w.heap.size w wx)
        case first =>
          as_aux_lemma =>
            refine wp_region_held_drew (S := (fun w' => w'.cell? ⟨jL, 0, none⟩ = some (.bool true) ∧ w'.cell? ⟨jL, 1, none⟩ = some (.int .i64 lo) ∧ w'.cell? ⟨jL, 2, none⟩ = some (.int .i64 hi) ∧ w'.cell? ⟨jL, 3, none⟩ = some (.int .i64 (f i).2) ∧ w'.cell? ⟨kO, 0, none⟩ = some (.int .i64 x) ∧ w'.cell? ⟨kO, 1, none⟩ = some (.int .i64 y) ∧ w'.cell? ⟨b, off + k * 2 + 1, none⟩ = some (.int .i64 (f k).2))) (by kernel_rfl) ?_ (fun hHeld => ?_)
            · first | exact ⟨Lc1, Lc2, Lc3, Lc4, Oc1, Oc2, ck2⟩ | (simp (maxDischargeDepth := 6) [go_sem, *]; done)
            clear Oc0 Oc1 Oc2 Oc3 Oc4 Oc5 Oc6 Oc7 Oc8 Lc0 Lc1 Lc2 Lc3 Lc4 Lc5 Lc6 Lc7 Lc8 Ac0 Ac1 Ac2 Ac3 Ac4 ci1 ci2 ck2 cj1 cj2 cb
            replace O := O.drew
            replace L := L.drew
            replace A := A.drew
            replace S := S.drew6
            replace B := B.drew
            generalize v.drew = v at *
            (obtain ⟨Oc0, Oc1, Oc2, Oc3, Oc4, Oc5, Oc6, Oc7, Oc8⟩ := id O); (obtain ⟨Lc0, Lc1, Lc2, Lc3, Lc4, Lc5, Lc6, Lc7, Lc8⟩ := id L); (obtain ⟨Ac0, Ac1, Ac2, Ac3, Ac4⟩ := id A); (have ci1 := (S.2 i him).1); (have ci2 := (S.2 i him).2); (have ck2 := (S.2 k hkm).2); (have cj1 := (S.2 j hjm).1); (have cj2 := (S.2 j hjm).2); (have cb := S.1)
            refine wpAnyH_take (i := 0) (v := ?_) (by rw [List.getElem?_toArray]; rfl) (by kernel_rfl) (by kernel_rfl) (by kernel_rfl) (by intro _ _ _ h; exact h) (Or.inl ⟨by rfl, ?_⟩) (by assumption) ?_
            rotate_left
            · (intro w hSw; (try dsimp only at hSw); go_simp; all_goals with_reducible rfl)
            (try simp only [Act.put, List.setIfInBounds_toArray, List.set_cons_zero, List.set_cons_succ])
            refine wpAnyH_take (i := 1) (v := ?_) (by rw [List.getElem?_toArray]; rfl) (by kernel_rfl) (by kernel_rfl) (by kernel_rfl) (by intro _ _ _ h; exact h) (Or.inl ⟨by rfl, ?_⟩) (by assumption) ?_
            rotate_left
            · (intro w hSw; (try dsimp only at hSw); go_simp; all_goals with_reducible rfl)
            (try simp only [Act.put, List.setIfInBounds_toArray, List.set_cons_zero, List.set_cons_succ])
            refine wpAnyH_take (i := 2) (v := ?_) (by rw [List.getElem?_toArray]; rfl) (by kernel_rfl) (by kernel_rfl) (by kernel_rfl) (by intro _ _ _ h; exact h) (Or.inl ⟨by rfl, ?_⟩) (by assumption) ?_
            rotate_left
            · (intro w hSw; (try dsimp only at hSw); go_simp; all_goals with_reducible rfl)
            (try simp only [Act.put, List.setIfInBounds_toArray, List.set_cons_zero, List.set_cons_succ])
            refine wpAnyH_take (i := 3) (v := ?_) (by rw [List.getElem?_toArray]; rfl) (by kernel_rfl) (by kernel_rfl) (by kernel_rfl) (by intro _ _ _ h; exact h) (Or.inl ⟨by rfl, ?_⟩) (by assumption) ?_
            rotate_left
            · (intro w hSw; (try dsimp only at hSw); go_simp; all_goals with_reducible rfl)
            (try simp only [Act.put, List.setIfInBounds_toArray, List.set_cons_zero, List.set_cons_succ])
            refine wpAnyH_take (i := 4) (v := ?_) (by rw [List.getElem?_toArray]; rfl) (by kernel_rfl) (by kernel_rfl) (by kernel_rfl) (by intro _ _ _ h; exact h) (Or.inl ⟨by rfl, ?_⟩) (by assumption) ?_
            rotate_left
            · (intro w hSw; (try dsimp only at hSw); go_simp; all_goals with_reducible rfl)
            (try simp only [Act.put, List.setIfInBounds_toArray, List.set_cons_zero, List.set_cons_succ])
            refine wpAnyH_take (i := 5) (v := ?_) (by rw [List.getElem?_toArray]; rfl) (by kernel_rfl) (by kernel_rfl) (by kernel_rfl) (by intro _ _ _ h; exact h) (Or.inl ⟨by rfl, ?_⟩) (by assumption) ?_
            rotate_left
            · (intro w hSw; (try dsimp only at hSw); go_simp; all_goals with_reducible rfl)
            (try simp only [Act.put, List.setIfInBounds_toArray, List.set_cons_zero, List.set_cons_succ])
            refine wpAnyH_take (i := 6) (v := ?_) (by rw [List.getElem?_toArray]; rfl) (by kernel_rfl) (by kernel_rfl) (by kernel_rfl) (by intro _ _ _ h; exact h) (Or.inl ⟨by rfl, ?_⟩) (by assumption) ?_
            rotate_left
            · (intro w hSw; (try dsimp only at hSw); go_simp; all_goals with_reducible rfl)
            (try simp only [Act.put, List.setIfInBounds_toArray, List.set_cons_zero, List.set_cons_succ])
            refine wpAnyH_take (i := 7) (v := ?_) (by rw [List.getElem?_toArray]; rfl) (by kernel_rfl) (by kernel_rfl) (by kernel_rfl) (by intro _ _ _ h; exact h) (Or.inl ⟨by rfl, ?_⟩) (by assumption) ?_
            rotate_left
            · (intro w hSw; (try dsimp only at hSw); go_simp; all_goals with_reducible rfl)
            (try simp only [Act.put, List.setIfInBounds_toArray, List.set_cons_zero, List.set_cons_succ])
            refine wpAnyH_ready (rs := [8, 12]) (by kernel_rfl) (by simp) ?_
            refine (AllReadyH.cons (by rw [List.getElem?_toArray]; rfl) (fun K hK => ?_) (AllReadyH.cons (by rw [List.getElem?_toArray]; rfl) (fun K hK => ?_) AllReadyH.nil))
            · go_simp
              refine (C3 _).mono ?_; rintro e v ⟨rfl, hb⟩; clear Oc0 Oc1 Oc2 Oc3 Oc4 Oc5 Oc6 Oc7 Oc8 Lc0 Lc1 Lc2 Lc3 Lc4 Lc5 Lc6 Lc7 Lc8 Ac0 Ac1 Ac2 Ac3 Ac4 ci1 ci2 ck2 cj1 cj2 cb; (try clear Nc0 Nc1 Nc2 Nc3 Nc4 Nc5 Nc6 Nc7 Nc8); (replace O := O.below hb); (replace L := L.below hb); (replace A := A.below hb); (replace S := S.belo6 hb); (try (replace N := N.below hb)); (replace B := B.trans (hb.mono B.size)); clear hb; (obtain ⟨Oc0, Oc1, Oc2, Oc3, Oc4, Oc5, Oc6, Oc7, Oc8⟩ := id O); (obtain ⟨Lc0, Lc1, Lc2, Lc3, Lc4, Lc5, Lc6, Lc7, Lc8⟩ := id L); (obtain ⟨Ac0, Ac1, Ac2, Ac3, Ac4⟩ := id A); (have ci1 := (S.2 i him).1); (have ci2 := (S.2 i him).2); (have ck2 := (S.2 k hkm).2); (have cj1 := (S.2 j hjm).1); (have cj2 := (S.2 j hjm).2); (have cb := S.1); (try (obtain ⟨Nc0, Nc1, Nc2, Nc3, Nc4, Nc5, Nc6, Nc7, Nc8⟩ := id N))
              (try go_wp2_with fail)
              refine hK.out _ _ ?_ (fun hHeld => ?_)
              · first | exact ⟨Lc1, Lc2, Lc3, Lc4, Oc1, Oc2, ck2⟩ | (simp (maxDischargeDepth := 6) [go_sem, *]; done)
              clear hK K
              (try simp only [Act.put, List.setIfInBounds_toArray, List.set_cons_zero, List.set_cons_succ])
              refine wpAnyH_take (i := 9) (v := ?_) (by rw [List.getElem?_toArray]; rfl) (by kernel_rfl) (by kernel_rfl) (by kernel_rfl) (by intro _ _ _ h; exact h) (Or.inl ⟨by rfl, ?_⟩) (by assumption) ?_
              rotate_left
              · (intro w hSw; (try dsimp only at hSw); go_simp; all_goals with_reducible rfl)
              (try simp only [Act.put, List.setIfInBounds_toArray, List.set_cons_zero, List.set_cons_succ])
              refine wpAnyH_take (i := 10) (v := ?_) (by rw [List.getElem?_toArray]; rfl) (by kernel_rfl) (by kernel_rfl) (by kernel_rfl) (by intro _ _ _ h; exact h) (Or.inl ⟨by rfl, ?_⟩) (by assumption) ?_
              rotate_left
              · (intro w hSw; (try dsimp only at hSw); go_simp; all_goals with_reducible rfl)
              (try simp only [Act.put, List.setIfInBounds_toArray, List.set_cons_zero, List.set_cons_succ])
              refine wpAnyH_take (i := 11) (v := ?_) (by rw [List.getElem?_toArray]; rfl) (by kernel_rfl) (by kernel_rfl) (by kernel_rfl) (by intro _ _ _ h; exact h) (Or.inl ⟨by rfl, ?_⟩) (by assumption) ?_
              rotate_left
              · (intro w hSw; (try dsimp only at hSw); go_simp; all_goals with_reducible rfl)
              (try simp only [Act.put, List.setIfInBounds_toArray, List.set_cons_zero, List.set_cons_succ])
              refine wpAnyH_ready (rs := [12]) (by kernel_rfl) (by simp) ?_
              refine (AllReadyH.cons (by rw [List.getElem?_toArray]; rfl) (fun K hK => ?_) AllReadyH.nil)
              go_simp
              (have N := BoxL.new v false 0 0 0 39); (have hjB := B.size); (have hjS : b < v.heap.size := cb); (have hjO : kO < v.heap.size := Oc0); (have hjL : jL < v.heap.size := Lc0); (have hjA : jA < v.heap.size := Ac0); clear Oc0 Oc1 Oc2 Oc3 Oc4 Oc5 Oc6 Oc7 Oc8 Lc0 Lc1 Lc2 Lc3 Lc4 Lc5 Lc6 Lc7 Lc8 Ac0 Ac1 Ac2 Ac3 Ac4 ci1 ci2 ck2 cj1 cj2 cb; (replace O := O.alloc (.cells #[.bool false, .int .i64 0, .int .i64 0, .int .i64 0] 39)); (replace L := L.alloc (.cells #[.bool false, .int .i64 0, .int .i64 0, .int .i64 0] 39)); (replace A := A.alloc (.cells #[.bool false, .int .i64 0, .int .i64 0, .int .i64 0] 39)); (replace S := S.alloc6 (.cells #[.bool false, .int .i64 0, .int .i64 0, .int .i64 0] 39)); (replace B := B.alloc B.size (.cells #[.bool false, .int .i64 0, .int .i64 0, .int .i64 0] 39)); (generalize v.alloc (.cells #[.bool false, .int .i64 0, .int .i64 0, .int .i64 0] 39) = v2 at *); (obtain ⟨Oc0, Oc1, Oc2, Oc3, Oc4, Oc5, Oc6, Oc7, Oc8⟩ := id O); (obtain ⟨Lc0, Lc1, Lc2, Lc3, Lc4, Lc5, Lc6, Lc7, Lc8⟩ := id L); (obtain ⟨Ac0, Ac1, Ac2, Ac3, Ac4⟩ := id A); (have ci1 := (S.2 i him).1); (have ci2 := (S.2 i him).2); (have ck2 := (S.2 k hkm).2); (have cj1 := (S.2 j hjm).1); (have cj2 := (S.2 j hjm).2); (have cb := S.1); (obtain ⟨Nc0, Nc1, Nc2, Nc3, Nc4, Nc5, Nc6, Nc7, Nc8⟩ := id N)
              refine hK.out _ _ ?_ (fun hHeld => ?_)
              · first | exact ⟨Lc1, Lc2, Lc3, Lc4, Oc1, Oc2, ck2⟩ | (simp (maxDischargeDepth := 6) [go_sem, *]; done)
              clear hK K
              (try simp only [Act.put, List.setIfInBounds_toArray, List.set_cons_zero, List.set_cons_succ])
              refine wpAnyH_ready (rs := [13]) (by kernel_rfl) (by simp) ?_
              refine (AllReadyH.cons (by rw [List.getElem?_toArray]; rfl) (fun K hK => ?_) AllReadyH.nil)
              go_simp
              refine hK.out _ _ ?_ (fun hHeld => ?_)
              · first | exact ⟨Lc1, Lc2, Lc3, Lc4, Oc1, Oc2, ck2⟩ | (simp (maxDischargeDepth := 6) [go_sem, *]; done)
              clear hK K
              (try simp only [Act.put, List.setIfInBounds_toArray, List.set_cons_zero, List.set_cons_succ])
              refine wpAnyH_take (i := 14) (v := ?_) (by rw [List.getElem?_toArray]; rfl) (by kernel_rfl) (by kernel_rfl) (by kernel_rfl) (by intro _ _ _ h; exact h) (Or.inl ⟨by rfl, ?_⟩) (by assumption) ?_
              rotate_left
              · (intro w hSw; (try dsimp only at hSw); go_simp; all_goals with_reducible rfl)
              (try simp only [Act.put, List.setIfInBounds_toArray, List.set_cons_zero, List.set_cons_succ])
              refine wpAnyH_done (by kernel_rfl) ?_ _
              go_wp2_with fail
              go_meet
              case rel => exact ⟨_, rfl, rfl, N.set true p1 p2 (f k).2, hjS, hjO, hjA, O.setLO (Nat.ne_of_gt hjO) _ _ _ _, A.setLO (Nat.ne_of_gt hjA) _ _ _ _, S.setLO (Nat.ne_of_gt hjS) _ _ _ _, Below.setL B hjB _ _ _ _⟩
            · go_simp
              (have N := BoxL.new v false 0 0 0 39); (have hjB := B.size); (have hjS : b < v.heap.size := cb); (have hjO : kO < v.heap.size := Oc0); (have hjL : jL < v.heap.size := Lc0); (have hjA : jA < v.heap.size := Ac0); clear Oc0 Oc1 Oc2 Oc3 Oc4 Oc5 Oc6 Oc7 Oc8 Lc0 Lc1 Lc2 Lc3 Lc4 Lc5 Lc6 Lc7 Lc8 Ac0 Ac1 Ac2 Ac3 Ac4 ci1 ci2 ck2 cj1 cj2 cb; (replace O := O.alloc (.cells #[.bool false, .int .i64 0, .int .i64 0, .int .i64 0] 39)); (replace L := L.alloc (.cells #[.bool false, .int .i64 0, .int .i64 0, .int .i64 0] 39)); (replace A := A.alloc (.cells #[.bool false, .int .i64 0, .int .i64 0, .int .i64 0] 39)); (replace S := S.alloc6 (.cells #[.bool false, .int .i64 0, .int .i64 0, .int .i64 0] 39)); (replace B := B.alloc B.size (.cells #[.bool false, .int .i64 0, .int .i64 0, .int .i64 0] 39)); (generalize v.alloc (.cells #[.bool false, .int .i64 0, .int .i64 0, .int .i64 0] 39) = v2 at *); (obtain ⟨Oc0, Oc1, Oc2, Oc3, Oc4, Oc5, Oc6, Oc7, Oc8⟩ := id O); (obtain ⟨Lc0, Lc1, Lc2, Lc3, Lc4, Lc5, Lc6, Lc7, Lc8⟩ := id L); (obtain ⟨Ac0, Ac1, Ac2, Ac3, Ac4⟩ := id A); (have ci1 := (S.2 i him).1); (have ci2 := (S.2 i him).2); (have ck2 := (S.2 k hkm).2); (have cj1 := (S.2 j hjm).1); (have cj2 := (S.2 j hjm).2); (have cb := S.1); (obtain ⟨Nc0, Nc1, Nc2, Nc3, Nc4, Nc5, Nc6, Nc7, Nc8⟩ := id N)
              refine hK.out _ _ ?_ (fun hHeld => ?_)
              · first | exact ⟨Lc1, Lc2, Lc3, Lc4, Oc1, Oc2, ck2⟩ | (simp (maxDischargeDepth := 6) [go_sem, *]; done)
              clear hK K
              (try simp only [Act.put, List.setIfInBounds_toArray, List.set_cons_zero, List.set_cons_succ])
              refine wpAnyH_ready (rs := [8]) (by kernel_rfl) (by simp) ?_
              refine (AllReadyH.cons (by rw [List.getElem?_toArray]; rfl) (fun K hK => ?_) AllReadyH.nil)
              go_simp
              refine (C3 _).mono ?_; rintro e v ⟨rfl, hb⟩; clear Oc0 Oc1 Oc2 Oc3 Oc4 Oc5 Oc6 Oc7 Oc8 Lc0 Lc1 Lc2 Lc3 Lc4 Lc5 Lc6 Lc7 Lc8 Ac0 Ac1 Ac2 Ac3 Ac4 ci1 ci2 ck2 cj1 cj2 cb; (try clear Nc0 Nc1 Nc2 Nc3 Nc4 Nc5 Nc6 Nc7 Nc8); (replace O := O.below hb); (replace L := L.below hb); (replace A := A.below hb); (replace S := S.belo6 hb); (try (replace N := N.below hb)); (replace B := B.trans (hb.mono B.size)); clear hb; (obtain ⟨Oc0, Oc1, Oc2, Oc3, Oc4, Oc5, Oc6, Oc7, Oc8⟩ := id O); (obtain ⟨Lc0, Lc1, Lc2, Lc3, Lc4, Lc5, Lc6, Lc7, Lc8⟩ := id L); (obtain ⟨Ac0, Ac1, Ac2, Ac3, Ac4⟩ := id A); (have ci1 := (S.2 i him).1); (have ci2 := (S.2 i him).2); (have ck2 := (S.2 k hkm).2); (have cj1 := (S.2 j hjm).1); (have cj2 := (S.2 j hjm).2); (have cb := S.1); (try (obtain ⟨Nc0, Nc1, Nc2, Nc3, Nc4, Nc5, Nc6, Nc7, Nc8⟩ := id N))
              (try go_wp2_with fail)
              refine hK.out _ _ ?_ (fun hHeld => ?_)
              · first | exact ⟨Lc1, Lc2, Lc3, Lc4, Oc1, Oc2, ck2⟩ | (simp (maxDischargeDepth := 6) [go_sem, *]; done)
              clear hK K
              (try simp only [Act.put, List.setIfInBounds_toArray, List.set_cons_zero, List.set_cons_succ])
              refine wpAnyH_take (i := 9) (v := ?_) (by rw [List.getElem?_toArray]; rfl) (by kernel_rfl) (by kernel_rfl) (by kernel_rfl) (by intro _ _ _ h; exact h) (Or.inl ⟨by rfl, ?_⟩) (by assumption) ?_
              rotate_left
              · (intro w hSw; (try dsimp only at hSw); go_simp; all_goals with_reducible rfl)
              (try simp only [Act.put, List.setIfInBounds_toArray, List.set_cons_zero, List.set_cons_succ])
              refine wpAnyH_take (i := 10) (v := ?_) (by rw [List.getElem?_toArray]; rfl) (by kernel_rfl) (by kernel_rfl) (by kernel_rfl) (by intro _ _ _ h; exact h) (Or.inl ⟨by rfl, ?_⟩) (by assumption) ?_
              rotate_left
              · (intro w hSw; (try dsimp only at hSw); go_simp; all_goals with_reducible rfl)
              (try simp only [Act.put, List.setIfInBounds_toArray, List.set_cons_zero, List.set_cons_succ])
              refine wpAnyH_take (i := 11) (v := ?_) (by rw [List.getElem?_toArray]; rfl) (by kernel_rfl) (by kernel_rfl) (by kernel_rfl) (by intro _ _ _ h; exact h) (Or.inl ⟨by rfl, ?_⟩) (by assumption) ?_
              rotate_left
              · (intro w hSw; (try dsimp only at hSw); go_simp; all_goals with_reducible rfl)
              (try simp only [Act.put, List.setIfInBounds_toArray, List.set_cons_zero, List.set_cons_succ])
              refine wpAnyH_ready (rs := [13]) (by kernel_rfl) (by simp) ?_
              refine (AllReadyH.cons (by rw [List.getElem?_toArray]; rfl) (fun K hK => ?_) AllReadyH.nil)
              go_simp
              refine hK.out _ _ ?_ (fun hHeld => ?_)
              · first | exact ⟨Lc1, Lc2, Lc3, Lc4, Oc1, Oc2, ck2⟩ | (simp (maxDischargeDepth := 6) [go_sem, *]; done)
              clear hK K
              (try simp only [Act.put, List.setIfInBounds_toArray, List.set_cons_zero, List.set_cons_succ])
              refine wpAnyH_take (i := 14) (v := ?_) (by rw [List.getElem?_toArray]; rfl) (by kernel_rfl) (by kernel_rfl) (by kernel_rfl) (by intro _ _ _ h; exact h) (Or.inl ⟨by rfl, ?_⟩) (by assumption) ?_
              rotate_left
              · (intro w hSw; (try dsimp only at hSw); go_simp; all_goals with_reducible rfl)
              (try simp only [Act.put, List.setIfInBounds_toArray, List.set_cons_zero, List.set_cons_succ])
              refine wpAnyH_done (by kernel_rfl) ?_ _
              go_wp2_with fail
              go_meet
              case rel => exact ⟨_, rfl, rfl, N.set true p1 p2 (f k).2, hjS, hjO, hjA, O.setLO (Nat.ne_of_gt hjO) _ _ _ _, A.setLO (Nat.ne_of_gt hjA) _ _ _ _, S.setLO (Nat.ne_of_gt hjS) _ _ _ _, Below.setL B hjB _ _ _ _⟩
        case rest =>
          clear Oc0 Oc1 Oc2 Oc3 Oc4 Oc5 Oc6 Oc7 Oc8 Lc0 Lc1 Lc2 Lc3 Lc4 Lc5 Lc6 Lc7 Lc8 Ac0 Ac1 Ac2 Ac3 Ac4 ci1 ci2 ck2 cj1 cj2 cb
          clear O L A S B
          obtain ⟨jP, rfl, rfl, P, hbP, hOP, hAP, O, A, S, B⟩ := hcut
          generalize wc = v at *
          (obtain ⟨Oc0, Oc1, Oc2, Oc3, Oc4, Oc5, Oc6, Oc7, Oc8⟩ := id O); (obtain ⟨Ac0, Ac1, Ac2, Ac3, Ac4⟩ := id A); (obtain ⟨Pc0, Pc1, Pc2, Pc3, Pc4, Pc5, Pc6, Pc7, Pc8⟩ := id P); (have ci1 := (S.2 i him).1); (have ci2 := (S.2 i him).2); (have ck2 := (S.2 k hkm).2); (have cj1 := (S.2 j hjm).1); (have cj2 := (S.2 j hjm).2); (have cb := S.1)
          go_wp2_with fail
          go_cut [19, 20] (fun sa sb wx => ∃ jZ : Nat, sa = .pointer (some ⟨jZ, 0, none⟩) ∧ sb = .int .i64 0 ∧ Bx wx jZ z1 z2 ∧ b < jZ ∧ jA < jZ ∧ Bx wx jA q1 q2 ∧ Prs wx b off l f ∧ Below w.heap.size w wx)
          case first =>
            as_aux_lemma =>
              refine wp_region_held_drew (S := (fun w' => w'.cell? ⟨jP, 0, none⟩ = some (.bool true) ∧ w'.cell? ⟨jP, 1, none⟩ = some (.int .i64 p1) ∧ w'.cell? ⟨jP, 2, none⟩ = some (.int .i64 p2) ∧ w'.cell? ⟨jP, 3, none⟩ = some (.int .i64 (f k).2) ∧ w'.cell? ⟨kO, 0, none⟩ = some (.int .i64 x) ∧ w'.cell? ⟨kO, 1, none⟩ = some (.int .i64 y) ∧ w'.cell? ⟨b, off + j * 2 + 1, none⟩ = some (.int .i64 (f j).2))) (by kernel_rfl) ?_ (fun hHeld => ?_)
              · first | exact ⟨Pc1, Pc2, Pc3, Pc4, Oc1, Oc2, cj2⟩ | (simp (maxDischargeDepth := 6) [go_sem, *]; done)
              clear Oc0 Oc1 Oc2 Oc3 Oc4 Oc5 Oc6 Oc7 Oc8 Ac0 Ac1 Ac2 Ac3 Ac4 Pc0 Pc1 Pc2 Pc3 Pc4 Pc5 Pc6 Pc7 Pc8 ci1 ci2 ck2 cj1 cj2 cb
              replace O := O.drew
              replace A := A.drew
              replace P := P.drew
              replace S := S.drew6
              replace B := B.drew
              generalize v.drew = v at *
              (obtain ⟨Oc0, Oc1, Oc2, Oc3, Oc4, Oc5, Oc6, Oc7, Oc8⟩ := id O); (obtain ⟨Ac0, Ac1, Ac2, Ac3, Ac4⟩ := id A); (obtain ⟨Pc0, Pc1, Pc2, Pc3, Pc4, Pc5, Pc6, Pc7, Pc8⟩ := id P); (have ci1 := (S.2 i him).1); (have ci2 := (S.2 i him).2); (have ck2 := (S.2 k hkm).2); (have cj1 := (S.2 j hjm).1); (have cj2 := (S.2 j hjm).2); (have cb := S.1)
              refine wpAnyH_take (i := 0) (v := ?_) (by rw [List.getElem?_toArray]; rfl) (by kernel_rfl) (by kernel_rfl) (by kernel_rfl) (by intro _ _ _ h; exact h) (Or.inl ⟨by rfl, ?_⟩) (by assumption) ?_
              rotate_left
              · (intro w hSw; (try dsimp only at hSw); go_simp; all_goals with_reducible rfl)
              (try simp only [Act.put, List.setIfInBounds_toArray, List.set_cons_zero, List.set_cons_succ])
              refine wpAnyH_take (i := 1) (v := ?_) (by rw [List.getElem?_toArray]; rfl) (by kernel_rfl) (by kernel_rfl) (by kernel_rfl) (by intro _ _ _ h; exact h) (Or.inl ⟨by rfl, ?_⟩) (by assumption) ?_
              rotate_left
              · (intro w hSw; (try dsimp only at hSw); go_simp; all_goals with_reducible rfl)
              (try simp only [Act.put, List.setIfInBounds_toArray, List.set_cons_zero, List.set_cons_succ])
              refine wpAnyH_take (i := 2) (v := ?_) (by rw [List.getElem?_toArray]; rfl) (by kernel_rfl) (by kernel_rfl) (by kernel_rfl) (by intro _ _ _ h; exact h) (Or.inl ⟨by rfl, ?_⟩) (by assumption) ?_
              rotate_left
              · (intro w hSw; (try dsimp only at hSw); go_simp; all_goals with_reducible rfl)
              (try simp only [Act.put, List.setIfInBounds_toArray, List.set_cons_zero, List.set_cons_succ])
              refine wpAnyH_take (i := 3) (v := ?_) (by rw [List.getElem?_toArray]; rfl) (by kernel_rfl) (by kernel_rfl) (by kernel_rfl) (by intro _ _ _ h; exact h) (Or.inl ⟨by rfl, ?_⟩) (by assumption) ?_
              rotate_left
              · (intro w hSw; (try dsimp only at hSw); go_simp; all_goals with_reducible rfl)
              (try simp only [Act.put, List.setIfInBounds_toArray, List.set_cons_zero, List.set_cons_succ])
              refine wpAnyH_take (i := 4) (v := ?_) (by rw [List.getElem?_toArray]; rfl) (by kernel_rfl) (by kernel_rfl) (by kernel_rfl) (by intro _ _ _ h; exact h) (Or.inl ⟨by rfl, ?_⟩) (by assumption) ?_
              rotate_left
              · (intro w hSw; (try dsimp only at hSw); go_simp; all_goals with_reducible rfl)
              (try simp only [Act.put, List.setIfInBounds_toArray, List.set_cons_zero, List.set_cons_succ])
              refine wpAnyH_take (i := 5) (v := ?_) (by rw [List.getElem?_toArray]; rfl) (by kernel_rfl) (by kernel_rfl) (by kernel_rfl) (by intro _ _ _ h; exact h) (Or.inl ⟨by rfl, ?_⟩) (by assumption) ?_
              rotate_left
              · (intro w hSw; (try dsimp only at hSw); go_simp; all_goals with_reducible rfl)
              (try simp only [Act.put, List.setIfInBounds_toArray, List.set_cons_zero, List.set_cons_succ])
              refine wpAnyH_take (i := 6) (v := ?_) (by rw [List.getElem?_toArray]; rfl) (by kernel_rfl) (by kernel_rfl) (by kernel_rfl) (by intro _ _ _ h; exact h) (Or.inl ⟨by rfl, ?_⟩) (by assumption) ?_
              rotate_left
              · (intro w hSw; (try dsimp only at hSw); go_simp; all_goals with_reducible rfl)
              (try simp only [Act.put, List.setIfInBounds_toArray, List.set_cons_zero, List.set_cons_succ])
              refine wpAnyH_take (i := 7) (v := ?_) (by rw [List.getElem?_toArray]; rfl) (by kernel_rfl) (by kernel_rfl) (by kernel_rfl) (by intro _ _ _ h; exact h) (Or.inl ⟨by rfl, ?_⟩) (by assumption) ?_
              rotate_left
              · (intro w hSw; (try dsimp only at hSw); go_simp; all_goals with_reducible rfl)
              (try simp only [Act.put, List.setIfInBounds_toArray, List.set_cons_zero, List.set_cons_succ])
              refine wpAnyH_ready (rs := [8, 12]) (by kernel_rfl) (by simp) ?_
              refine (AllReadyH.cons (by rw [List.getElem?_toArray]; rfl) (fun K hK => ?_) (AllReadyH.cons (by rw [List.getElem?_toArray]; rfl) (fun K hK => ?_) AllReadyH.nil))
              · go_simp
                refine (C4 _).mono ?_; rintro e v ⟨rfl, hb⟩; clear Oc0 Oc1 Oc2 Oc3 Oc4 Oc5 Oc6 Oc7 Oc8 Ac0 Ac1 Ac2 Ac3 Ac4 Pc0 Pc1 Pc2 Pc3 Pc4 Pc5 Pc6 Pc7 Pc8 ci1 ci2 ck2 cj1 cj2 cb; (try clear Nc0 Nc1 Nc2 Nc3 Nc4); (replace O := O.below hb); (replace A := A.below hb); (replace P := P.below hb); (replace S := S.belo6 hb); (try (replace N := N.below hb)); (replace B := B.trans (hb.mono B.size)); clear hb; (obtain ⟨Oc0, Oc1, Oc2, Oc3, Oc4, Oc5, Oc6, Oc7, Oc8⟩ := id O); (obtain ⟨Ac0, Ac1, Ac2, Ac3, Ac4⟩ := id A); (obtain ⟨Pc0, Pc1, Pc2, Pc3, Pc4, Pc5, Pc6, Pc7, Pc8⟩ := id P); (have ci1 := (S.2 i him).1); (have ci2 := (S.2 i him).2); (have ck2 := (S.2 k hkm).2); (have cj1 := (S.2 j hjm).1); (have cj2 := (S.2 j hjm).2); (have cb := S.1); (try (obtain ⟨Nc0, Nc1, Nc2, Nc3, Nc4⟩ := id N))
                (try go_wp2_with fail)
                refine hK.out _ _ ?_ (fun hHeld => ?_)
                · first | exact ⟨Pc1, Pc2, Pc3, Pc4, Oc1, Oc2, cj2⟩ | (simp (maxDischargeDepth := 6) [go_sem, *]; done)
                clear hK K
                (try simp only [Act.put, List.setIfInBounds_toArray, List.set_cons_zero, List.set_cons_succ])
                refine wpAnyH_take (i := 9) (v := ?_) (by rw [List.getElem?_toArray]; rfl) (by kernel_rfl) (by kernel_rfl) (by kernel_rfl) (by intro _ _ _ h; exact h) (Or.inl ⟨by rfl, ?_⟩) (by assumption) ?_
                rotate_left
                · (intro w hSw; (try dsimp only at hSw); go_simp; all_goals with_reducible rfl)
                (try simp only [Act.put, List.setIfInBounds_toArray, List.set_cons_zero, List.set_cons_succ])
                refine wpAnyH_take (i := 10) (v := ?_) (by rw [List.getElem?_toArray]; rfl) (by kernel_rfl) (by kernel_rfl) (by kernel_rfl) (by intro _ _ _ h; exact h) (Or.inl ⟨by rfl, ?_⟩) (by assumption) ?_
                rotate_left
                · (intro w hSw; (try dsimp only at hSw); go_simp; all_goals with_reducible rfl)
                (try simp only [Act.put, List.setIfInBounds_toArray, List.set_cons_zero, List.set_cons_succ])
                refine wpAnyH_take (i := 11) (v := ?_) (by rw [List.getElem?_toArray]; rfl) (by kernel_rfl) (by kernel_rfl) (by kernel_rfl) (by intro _ _ _ h; exact h) (Or.inl ⟨by rfl, ?_⟩) (by assumption) ?_
                rotate_left
                · (intro w hSw; (try dsimp only at hSw); go_simp; all_goals with_reducible rfl)
                (try simp only [Act.put, List.setIfInBounds_toArray, List.set_cons_zero, List.set_cons_succ])
                refine wpAnyH_ready (rs := [12]) (by kernel_rfl) (by simp) ?_
                refine (AllReadyH.cons (by rw [List.getElem?_toArray]; rfl) (fun K hK => ?_) AllReadyH.nil)
                go_simp
                (have N := Bx.new v 0 0 35); (have hjB := B.size); (have hjS : b < v.heap.size := cb); (have hjO : kO < v.heap.size := Oc0); (have hjA : jA < v.heap.size := Ac0); (have hjP : jP < v.heap.size := Pc0); clear Oc0 Oc1 Oc2 Oc3 Oc4 Oc5 Oc6 Oc7 Oc8 Ac0 Ac1 Ac2 Ac3 Ac4 Pc0 Pc1 Pc2 Pc3 Pc4 Pc5 Pc6 Pc7 Pc8 ci1 ci2 ck2 cj1 cj2 cb; (replace O := O.alloc (.cells #[.int .i64 0, .int .i64 0] 35)); (replace A := A.alloc (.cells #[.int .i64 0, .int .i64 0] 35)); (replace P := P.alloc (.cells #[.int .i64 0, .int .i64 0] 35)); (replace S := S.alloc6 (.cells #[.int .i64 0, .int .i64 0] 35)); (replace B := B.alloc B.size (.cells #[.int .i64 0, .int .i64 0] 35)); (generalize v.alloc (.cells #[.int .i64 0, .int .i64 0] 35) = v2 at *); (obtain ⟨Oc0, Oc1, Oc2, Oc3, Oc4, Oc5, Oc6, Oc7, Oc8⟩ := id O); (obtain ⟨Ac0, Ac1, Ac2, Ac3, Ac4⟩ := id A); (obtain ⟨Pc0, Pc1, Pc2, Pc3, Pc4, Pc5, Pc6, Pc7, Pc8⟩ := id P); (have ci1 := (S.2 i him).1); (have ci2 := (S.2 i him).2); (have ck2 := (S.2 k hkm).2); (have cj1 := (S.2 j hjm).1); (have cj2 := (S.2 j hjm).2); (have cb := S.1); (obtain ⟨Nc0, Nc1, Nc2, Nc3, Nc4⟩ := id N)
                refine hK.out _ _ ?_ (fun hHeld => ?_)
                · first | exact ⟨Pc1, Pc2, Pc3, Pc4, Oc1, Oc2, cj2⟩ | (simp (maxDischargeDepth := 6) [go_sem, *]; done)
                clear hK K
                (try simp only [Act.put, List.setIfInBounds_toArray, List.set_cons_zero, List.set_cons_succ])
                refine wpAnyH_ready (rs := [13]) (by kernel_rfl) (by simp) ?_
                refine (AllReadyH.cons (by rw [List.getElem?_toArray]; rfl) (fun K hK => ?_) AllReadyH.nil)
                go_simp
                refine hK.out _ _ ?_ (fun hHeld => ?_)
                · first | exact ⟨Pc1, Pc2, Pc3, Pc4, Oc1, Oc2, cj2⟩ | (simp (maxDischargeDepth := 6) [go_sem, *]; done)
                clear hK K
                (try simp only [Act.put, List.setIfInBounds_toArray, List.set_cons_zero, List.set_cons_succ])
                refine wpAnyH_take (i := 14) (v := ?_) (by rw [List.getElem?_toArray]; rfl) (by kernel_rfl) (by kernel_rfl) (by kernel_rfl) (by intro _ _ _ h; exact h) (Or.inl ⟨by rfl, ?_⟩) (by assumption) ?_
                rotate_left
                · (intro w hSw; (try dsimp only at hSw); go_simp; all_goals with_reducible rfl)
                (try simp only [Act.put, List.setIfInBounds_toArray, List.set_cons_zero, List.set_cons_succ])
                refine wpAnyH_done (by kernel_rfl) ?_ _
                go_wp2_with fail
                go_meet
                case rel => exact ⟨_, rfl, rfl, N.setI z1 z2, hjS, hjA, A.setIO (Nat.ne_of_gt hjA) _ _, S.setIO (Nat.ne_of_gt hjS) _ _, Below.setI B hjB _ _⟩
              · go_simp
                (have N := Bx.new v 0 0 35); (have hjB := B.size); (have hjS : b < v.heap.size := cb); (have hjO : kO < v.heap.size := Oc0); (have hjA : jA < v.heap.size := Ac0); (have hjP : jP < v.heap.size := Pc0); clear Oc0 Oc1 Oc2 Oc3 Oc4 Oc5 Oc6 Oc7 Oc8 Ac0 Ac1 Ac2 Ac3 Ac4 Pc0 Pc1 Pc2 Pc3 Pc4 Pc5 Pc6 Pc7 Pc8 ci1 ci2 ck2 cj1 cj2 cb; (replace O := O.alloc (.cells #[.int .i64 0, .int .i64 0] 35)); (replace A := A.alloc (.cells #[.int .i64 0, .int .i64 0] 35)); (replace P := P.alloc (.cells #[.int .i64 0, .int .i64 0] 35)); (replace S := S.alloc6 (.cells #[.int .i64 0, .int .i64 0] 35)); (replace B := B.alloc B.size (.cells #[.int .i64 0, .int .i64 0] 35)); (generalize v.alloc (.cells #[.int .i64 0, .int .i64 0] 35) = v2 at *); (obtain ⟨Oc0, Oc1, Oc2, Oc3, Oc4, Oc5, Oc6, Oc7, Oc8⟩ := id O); (obtain ⟨Ac0, Ac1, Ac2, Ac3, Ac4⟩ := id A); (obtain ⟨Pc0, Pc1, Pc2, Pc3, Pc4, Pc5, Pc6, Pc7, Pc8⟩ := id P); (have ci1 := (S.2 i him).1); (have ci2 := (S.2 i him).2); (have ck2 := (S.2 k hkm).2); (have cj1 := (S.2 j hjm).1); (have cj2 := (S.2 j hjm).2); (have cb := S.1); (obtain ⟨Nc0, Nc1, Nc2, Nc3, Nc4⟩ := id N)
                refine hK.out _ _ ?_ (fun hHeld => ?_)
                · first | exact ⟨Pc1, Pc2, Pc3, Pc4, Oc1, Oc2, cj2⟩ | (simp (maxDischargeDepth := 6) [go_sem, *]; done)
                clear hK K
                (try simp only [Act.put, List.setIfInBounds_toArray, List.set_cons_zero, List.set_cons_succ])
                refine wpAnyH_ready (rs := [8]) (by kernel_rfl) (by simp) ?_
                refine (AllReadyH.cons (by rw [List.getElem?_toArray]; rfl) (fun K hK => ?_) AllReadyH.nil)
                go_simp
                refine (C4 _).mono ?_; rintro e v ⟨rfl, hb⟩; clear Oc0 Oc1 Oc2 Oc3 Oc4 Oc5 Oc6 Oc7 Oc8 Ac0 Ac1 Ac2 Ac3 Ac4 Pc0 Pc1 Pc2 Pc3 Pc4 Pc5 Pc6 Pc7 Pc8 ci1 ci2 ck2 cj1 cj2 cb; (try clear Nc0 Nc1 Nc2 Nc3 Nc4); (replace O := O.below hb); (replace A := A.below hb); (replace P := P.below hb); (replace S := S.belo6 hb); (try (replace N := N.below hb)); (replace B := B.trans (hb.mono B.size)); clear hb; (obtain ⟨Oc0, Oc1, Oc2, Oc3, Oc4, Oc5, Oc6, Oc7, Oc8⟩ := id O); (obtain ⟨Ac0, Ac1, Ac2, Ac3, Ac4⟩ := id A); (obtain ⟨Pc0, Pc1, Pc2, Pc3, Pc4, Pc5, Pc6, Pc7, Pc8⟩ := id P); (have ci1 := (S.2 i him).1); (have ci2 := (S.2 i him).2); (have ck2 := (S.2 k hkm).2); (have cj1 := (S.2 j hjm).1); (have cj2 := (S.2 j hjm).2); (have cb := S.1); (try (obtain ⟨Nc0, Nc1, Nc2, Nc3, Nc4⟩ := id N))
                (try go_wp2_with fail)
                refine hK.out _ _ ?_ (fun hHeld => ?_)
                · first | exact ⟨Pc1, Pc2, Pc3, Pc4, Oc1, Oc2, cj2⟩ | (simp (maxDischargeDepth := 6) [go_sem, *]; done)
                clear hK K
                (try simp only [Act.put, List.setIfInBounds_toArray, List.set_cons_zero, List.set_cons_succ])
                refine wpAnyH_take (i := 9) (v := ?_) (by rw [List.getElem?_toArray]; rfl) (by kernel_rfl) (by kernel_rfl) (by kernel_rfl) (by intro _ _ _ h; exact h) (Or.inl ⟨by rfl, ?_⟩) (by assumption) ?_
                rotate_left
                · (intro w hSw; (try dsimp only at hSw); go_simp; all_goals with_reducible rfl)
                (try simp only [Act.put, List.setIfInBounds_toArray, List.set_cons_zero, List.set_cons_succ])
                refine wpAnyH_take (i := 10) (v := ?_) (by rw [List.getElem?_toArray]; rfl) (by kernel_rfl) (by kernel_rfl) (by kernel_rfl) (by intro _ _ _ h; exact h) (Or.inl ⟨by rfl, ?_⟩) (by assumption) ?_
                rotate_left
                · (intro w hSw; (try dsimp only at hSw); go_simp; all_goals with_reducible rfl)
                (try simp only [Act.put, List.setIfInBounds_toArray, List.set_cons_zero, List.set_cons_succ])
                refine wpAnyH_take (i := 11) (v := ?_) (by rw [List.getElem?_toArray]; rfl) (by kernel_rfl) (by kernel_rfl) (by kernel_rfl) (by intro _ _ _ h; exact h) (Or.inl ⟨by rfl, ?_⟩) (by assumption) ?_
                rotate_left
                · (intro w hSw; (try dsimp only at hSw); go_simp; all_goals with_reducible rfl)
                (try simp only [Act.put, List.setIfInBounds_toArray, List.set_cons_zero, List.set_cons_succ])
                refine wpAnyH_ready (rs := [13]) (by kernel_rfl) (by simp) ?_
                refine (AllReadyH.cons (by rw [List.getElem?_toArray]; rfl) (fun K hK => ?_) AllReadyH.nil)
                go_simp
                refine hK.out _ _ ?_ (fun hHeld => ?_)
                · first | exact ⟨Pc1, Pc2, Pc3, Pc4, Oc1, Oc2, cj2⟩ | (simp (maxDischargeDepth := 6) [go_sem, *]; done)
                clear hK K
                (try simp only [Act.put, List.setIfInBounds_toArray, List.set_cons_zero, List.set_cons_succ])
                refine wpAnyH_take (i := 14) (v := ?_) (by rw [List.getElem?_toArray]; rfl) (by kernel_rfl) (by kernel_rfl) (by kernel_rfl) (by intro _ _ _ h; exact h) (Or.inl ⟨by rfl, ?_⟩) (by assumption) ?_
                rotate_left
                · (intro w hSw; (try dsimp only at hSw); go_simp; all_goals with_reducible rfl)
                (try simp only [Act.put, List.setIfInBounds_toArray, List.set_cons_zero, List.set_cons_succ])
                refine wpAnyH_done (by kernel_rfl) ?_ _
                go_wp2_with fail
                go_meet
                case rel => exact ⟨_, rfl, rfl, N.setI z1 z2, hjS, hjA, A.setIO (Nat.ne_of_gt hjA) _ _, S.setIO (Nat.ne_of_gt hjS) _ _, Below.setI B hjB _ _⟩
          case rest =>
            clear Oc0 Oc1 Oc2 Oc3 Oc4 Oc5 Oc6 Oc7 Oc8 Ac0 Ac1 Ac2 Ac3 Ac4 Pc0 Pc1 Pc2 Pc3 Pc4 Pc5 Pc6 Pc7 Pc8 ci1 ci2 ck2 cj1 cj2 cb
            clear O A P S B
            obtain ⟨jZ, rfl, rfl, Z, hbZ, hAZ, A, S, B⟩ := hcut
            generalize wc = v at *
            (obtain ⟨Ac0, Ac1, Ac2, Ac3, Ac4⟩ := id A); (obtain ⟨Zc0, Zc1, Zc2, Zc3, Zc4⟩ := id Z); (have ci1 := (S.2 i him).1); (have ci2 := (S.2 i him).2); (have ck2 := (S.2 k hkm).2); (have cj1 := (S.2 j hjm).1); (have cj2 := (S.2 j hjm).2); (have cb := S.1)
            go_wp2_with fail
            refine wp_region_held_drew (S := (fun w' => w'.cell? ⟨jA, 0, none⟩ = some (.int .i64 q1) ∧ w'.cell? ⟨jA, 1, none⟩ = some (.int .i64 q2) ∧ w'.cell? ⟨jZ, 0, none⟩ = some (.int .i64 z1) ∧ w'.cell? ⟨jZ, 1, none⟩ = some (.int .i64 z2) ∧ w'.cell? ⟨b, off + j * 2, none⟩ = some (.int .i64 (f j).1))) (by kernel_rfl) ?_ (fun hHeld => ?_)
            · first | exact ⟨Ac1, Ac2, Zc1, Zc2, cj1⟩ | (simp (maxDischargeDepth := 6) [go_sem, *]; done)
            clear Ac0 Ac1 Ac2 Ac3 Ac4 Zc0 Zc1 Zc2 Zc3 Zc4 ci1 ci2 ck2 cj1 cj2 cb
            replace A := A.drew
            replace Z := Z.drew
            replace S := S.drew6
            replace B := B.drew
            generalize v.drew = v at *
            (obtain ⟨Ac0, Ac1, Ac2, Ac3, Ac4⟩ := id A); (obtain ⟨Zc0, Zc1, Zc2, Zc3, Zc4⟩ := id Z); (have ci1 := (S.2 i him).1); (have ci2 := (S.2 i him).2); (have ck2 := (S.2 k hkm).2); (have cj1 := (S.2 j hjm).1); (have cj2 := (S.2 j hjm).2); (have cb := S.1)
            refine wpAnyH_take (i := 0) (v := ?_) (by rw [List.getElem?_toArray]; rfl) (by kernel_rfl) (by kernel_rfl) (by kernel_rfl) (by intro _ _ _ h; exact h) (Or.inl ⟨by rfl, ?_⟩) (by assumption) ?_
            rotate_left
            · (intro w hSw; (try dsimp only at hSw); go_simp; all_goals with_reducible rfl)
            (try simp only [Act.put, List.setIfInBounds_toArray, List.set_cons_zero, List.set_cons_succ])
            refine wpAnyH_take (i := 1) (v := ?_) (by rw [List.getElem?_toArray]; rfl) (by kernel_rfl) (by kernel_rfl) (by kernel_rfl) (by intro _ _ _ h; exact h) (Or.inl ⟨by rfl, ?_⟩) (by assumption) ?_
            rotate_left
            · (intro w hSw; (try dsimp only at hSw); go_simp; all_goals with_reducible rfl)
            (try simp only [Act.put, List.setIfInBounds_toArray, List.set_cons_zero, List.set_cons_succ])
            refine wpAnyH_take (i := 2) (v := ?_) (by rw [List.getElem?_toArray]; rfl) (by kernel_rfl) (by kernel_rfl) (by kernel_rfl) (by intro _ _ _ h; exact h) (Or.inl ⟨by rfl, ?_⟩) (by assumption) ?_
            rotate_left
            · (intro w hSw; (try dsimp only at hSw); go_simp; all_goals with_reducible rfl)
            (try simp only [Act.put, List.setIfInBounds_toArray, List.set_cons_zero, List.set_cons_succ])
            refine wpAnyH_take (i := 3) (v := ?_) (by rw [List.getElem?_toArray]; rfl) (by kernel_rfl) (by kernel_rfl) (by kernel_rfl) (by intro _ _ _ h; exact h) (Or.inl ⟨by rfl, ?_⟩) (by assumption) ?_
            rotate_left
            · (intro w hSw; (try dsimp only at hSw); go_simp; all_goals with_reducible rfl)
            (try simp only [Act.put, List.setIfInBounds_toArray, List.set_cons_zero, List.set_cons_succ])
            refine wpAnyH_take (i := 4) (v := ?_) (by rw [List.getElem?_toArray]; rfl) (by kernel_rfl) (by kernel_rfl) (by kernel_rfl) (by intro _ _ _ h; exact h) (Or.inl ⟨by rfl, ?_⟩) (by assumption) ?_
            rotate_left
            · (intro w hSw; (try dsimp only at hSw); go_simp; all_goals with_reducible rfl)
            (try simp only [Act.put, List.setIfInBounds_toArray, List.set_cons_zero, List.set_cons_succ])
            refine wpAnyH_take (i := 5) (v := ?_) (by rw [List.getElem?_toArray]; rfl) (by kernel_rfl) (by kernel_rfl) (by kernel_rfl) (by intro _ _ _ h; exact h) (Or.inl ⟨by rfl, ?_⟩) (by assumption) ?_
            rotate_left
            · (intro w hSw; (try dsimp only at hSw); go_simp; all_goals with_reducible rfl)
            (try simp only [Act.put, List.setIfInBounds_toArray, List.set_cons_zero, List.set_cons_succ])
            refine wpAnyH_ready (rs := [6]) (by kernel_rfl) (by simp) ?_
            refine AllReadyH.cons (by rw [List.getElem?_toArray]; rfl) (fun K hK => ?_) AllReadyH.nil
            go_simp
            refine (D1 _).mono ?_; rintro e v ⟨rfl, hb⟩; clear Ac0 Ac1 Ac2 Ac3 Ac4 Zc0 Zc1 Zc2 Zc3 Zc4 ci1 ci2 ck2 cj1 cj2 cb; (try clear zz); (replace A := A.below hb); (replace Z := Z.below hb); (replace S := S.belo6 hb); (try (replace N := N.below hb)); (replace B := B.trans (hb.mono B.size)); clear hb; (obtain ⟨Ac0, Ac1, Ac2, Ac3, Ac4⟩ := id A); (obtain ⟨Zc0, Zc1, Zc2, Zc3, Zc4⟩ := id Z); (have ci1 := (S.2 i him).1); (have ci2 := (S.2 i him).2); (have ck2 := (S.2 k hkm).2); (have cj1 := (S.2 j hjm).1); (have cj2 := (S.2 j hjm).2); (have cb := S.1); (try (obtain ⟨zz⟩ := id N))
            (try go_wp2_with fail)
            refine hK.out _ _ ?_ (fun hHeld => ?_)
            · first | exact ⟨Ac1, Ac2, Zc1, Zc2, cj1⟩ | (simp (maxDischargeDepth := 6) [go_sem, *]; done)
            clear hK K
            (try simp only [Act.put, List.setIfInBounds_toArray, List.set_cons_zero, List.set_cons_succ])
            refine wpAnyH_take (i := 7) (v := ?_) (by rw [List.getElem?_toArray]; rfl) (by kernel_rfl) (by kernel_rfl) (by kernel_rfl) (by intro _ _ _ h; exact h) (Or.inl ⟨by rfl, ?_⟩) (by assumption) ?_
            rotate_left
            · (intro w hSw; (try dsimp only at hSw); go_simp; all_goals with_reducible rfl)
            (try simp only [Act.put, List.setIfInBounds_toArray, List.set_cons_zero, List.set_cons_succ])
            refine wpAnyH_take (i := 8) (v := ?_) (by rw [List.getElem?_toArray]; rfl) (by kernel_rfl) (by kernel_rfl) (by kernel_rfl) (by intro _ _ _ h; exact h) (Or.inl ⟨by rfl, ?_⟩) (by assumption) ?_
            rotate_left
            · (intro w hSw; (try dsimp only at hSw); go_simp; all_goals with_reducible rfl)
            (try simp only [Act.put, List.setIfInBounds_toArray, List.set_cons_zero, List.set_cons_succ])
            refine wpAnyH_take (i := 9) (v := ?_) (by rw [List.getElem?_toArray]; rfl) (by kernel_rfl) (by kernel_rfl) (by kernel_rfl) (by intro _ _ _ h; exact h) (Or.inl ⟨by rfl, ?_⟩) (by assumption) ?_
            rotate_left
            · (intro w hSw; (try dsimp only at hSw); go_simp; all_goals with_reducible rfl)
            (try simp only [Act.put, List.setIfInBounds_toArray, List.set_cons_zero, List.set_cons_succ])
            refine wpAnyH_take (i := 10) (v := ?_) (by rw [List.getElem?_toArray]; rfl) (by kernel_rfl) (by kernel_rfl) (by kernel_rfl) (by intro _ _ _ h; exact h) (Or.inl ⟨by rfl, ?_⟩) (by assumption) ?_
            rotate_left
            · (intro w hSw; (try dsimp only at hSw); go_simp; all_goals with_reducible rfl)
            (try simp only [Act.put, List.setIfInBounds_toArray, List.set_cons_zero, List.set_cons_succ])
            refine wpAnyH_take (i := 11) (v := ?_) (by rw [List.getElem?_toArray]; rfl) (by kernel_rfl) (by kernel_rfl) (by kernel_rfl) (by intro _ _ _ h; exact h) (Or.inl ⟨by rfl, ?_⟩) (by assumption) ?_
            rotate_left
            · (intro w hSw; (try dsimp only at hSw); go_simp; all_goals with_reducible rfl)
            (try simp only [Act.put, List.setIfInBounds_toArray, List.set_cons_zero, List.set_cons_succ])
            refine wpAnyH_take (i := 12) (v := ?_) (by rw [List.getElem?_toArray]; rfl) (by kernel_rfl) (by kernel_rfl) (by kernel_rfl) (by intro _ _ _ h; exact h) (Or.inl ⟨by rfl, ?_⟩) (by assumption) ?_
            rotate_left
            · (intro w hSw; (try dsimp only at hSw); go_simp; all_goals with_reducible rfl)
            (try simp only [Act.put, List.setIfInBounds_toArray, List.set_cons_zero, List.set_cons_succ])
            refine wpAnyH_take (i := 13) (v := ?_) (by rw [List.getElem?_toArray]; rfl) (by kernel_rfl) (by kernel_rfl) (by kernel_rfl) (by intro _ _ _ h; exact h) (Or.inl ⟨by rfl, ?_⟩) (by assumption) ?_
            rotate_left
            · (intro w hSw; (try dsimp only at hSw); go_simp; all_goals with_reducible rfl)
            (try simp only [Act.put, List.setIfInBounds_toArray, List.set_cons_zero, List.set_cons_succ])
            refine wpAnyH_take (i := 14) (v := ?_) (by rw [List.getElem?_toArray]; rfl) (by kernel_rfl) (by kernel_rfl) (by kernel_rfl) (by intro _ _ _ h; exact h) (Or.inl ⟨by rfl, ?_⟩) (by assumption) ?_
            rotate_left
            · (intro w hSw; (try dsimp only at hSw); go_simp; all_goals with_reducible rfl)
            (try simp only [Act.put, List.setIfInBounds_toArray, List.set_cons_zero, List.set_cons_succ])
            refine wpAnyH_take (i := 15) (v := ?_) (by rw [List.getElem?_toArray]; rfl) (by kernel_rfl) (by kernel_rfl) (by kernel_rfl) (by intro _ _ _ h; exact h) (Or.inl ⟨by rfl, ?_⟩) (by assumption) ?_
            rotate_left
            · (intro w hSw; (try dsimp only at hSw); go_simp; all_goals with_reducible rfl)
            (try simp only [Act.put, List.setIfInBounds_toArray, List.set_cons_zero, List.set_cons_succ])
            refine wpAnyH_take (i := 16) (v := ?_) (by rw [List.getElem?_toArray]; rfl) (by kernel_rfl) (by kernel_rfl) (by kernel_rfl) (by intro _ _ _ h; exact h) (Or.inl ⟨by rfl, ?_⟩) (by assumption) ?_
            rotate_left
            · (intro w hSw; (try dsimp only at hSw); go_simp; all_goals with_reducible rfl)
            (try simp only [Act.put, List.setIfInBounds_toArray, List.set_cons_zero, List.set_cons_succ])
            refine wpAnyH_take (i := 17) (v := ?_) (by rw [List.getElem?_toArray]; rfl) (by kernel_rfl) (by kernel_rfl) (by kernel_rfl) (by intro _ _ _ h; exact h) (Or.inl ⟨by rfl, ?_⟩) (by assumption) ?_
            rotate_left
            · (intro w hSw; (try dsimp only at hSw); go_simp; all_goals with_reducible rfl)
            (try simp only [Act.put, List.setIfInBounds_toArray, List.set_cons_zero, List.set_cons_succ])
            refine wpAnyH_take (i := 18) (v := ?_) (by rw [List.getElem?_toArray]; rfl) (by kernel_rfl) (by kernel_rfl) (by kernel_rfl) (by intro _ _ _ h; exact h) (Or.inl ⟨by rfl, ?_⟩) (by assumption) ?_
            rotate_left
            · (intro w hSw; (try dsimp only at hSw); go_simp; all_goals with_reducible rfl)
            (try simp only [Act.put, List.setIfInBounds_toArray, List.set_cons_zero, List.set_cons_succ])
            refine wpAnyH_take (i := 19) (v := ?_) (by rw [List.getElem?_toArray]; rfl) (by kernel_rfl) (by kernel_rfl) (by kernel_rfl) (by intro _ _ _ h; exact h) (Or.inl ⟨by rfl, ?_⟩) (by assumption) ?_
            rotate_left
            · (intro w hSw; (try dsimp only at hSw); go_simp; all_goals with_reducible rfl)
            (try simp only [Act.put, List.setIfInBounds_toArray, List.set_cons_zero, List.set_cons_succ])
            refine wpAnyH_take (i := 20) (v := ?_) (by rw [List.getElem?_toArray]; rfl) (by kernel_rfl) (by kernel_rfl) (by kernel_rfl) (by intro _ _ _ h; exact h) (Or.inl ⟨by rfl, ?_⟩) (by assumption) ?_
            rotate_left
            · (intro w hSw; (try dsimp only at hSw); go_simp; all_goals with_reducible rfl)
            (try simp only [Act.put, List.setIfInBounds_toArray, List.set_cons_zero, List.set_cons_succ])
            refine wpAnyH_take (i := 21) (v := ?_) (by rw [List.getElem?_toArray]; rfl) (by kernel_rfl) (by kernel_rfl) (by kernel_rfl) (by intro _ _ _ h; exact h) (Or.inl ⟨by rfl, ?_⟩) (by assumption) ?_
            rotate_left
            · (intro w hSw; (try dsimp only at hSw); go_simp; all_goals with_reducible rfl)
            (try simp only [Act.put, List.setIfInBounds_toArray, List.set_cons_zero, List.set_cons_succ])
            refine wpAnyH_ready (rs := [22]) (by kernel_rfl) (by simp) ?_
            refine AllReadyH.cons (by rw [List.getElem?_toArray]; rfl) (fun K hK => ?_) AllReadyH.nil
            go_simp
            refine (D2 _).mono ?_; rintro e v ⟨rfl, hb⟩; clear Ac0 Ac1 Ac2 Ac3 Ac4 Zc0 Zc1 Zc2 Zc3 Zc4 ci1 ci2 ck2 cj1 cj2 cb; (try clear zz); (replace A := A.below hb); (replace Z := Z.below hb); (replace S := S.belo6 hb); (try (replace N := N.below hb)); (replace B := B.trans (hb.mono B.size)); clear hb; (obtain ⟨Ac0, Ac1, Ac2, Ac3, Ac4⟩ := id A); (obtain ⟨Zc0, Zc1, Zc2, Zc3, Zc4⟩ := id Z); (have ci1 := (S.2 i him).1); (have ci2 := (S.2 i him).2); (have ck2 := (S.2 k hkm).2); (have cj1 := (S.2 j hjm).1); (have cj2 := (S.2 j hjm).2); (have cb := S.1); (try (obtain ⟨zz⟩ := id N))
            (try go_wp2_with fail)
            refine hK.out _ _ ?_ (fun hHeld => ?_)
            · first | exact ⟨Ac1, Ac2, Zc1, Zc2, cj1⟩ | (simp (maxDischargeDepth := 6) [go_sem, *]; done)
            clear hK K
            (try simp only [Act.put, List.setIfInBounds_toArray, List.set_cons_zero, List.set_cons_succ])
            refine wpAnyH_take (i := 23) (v := ?_) (by rw [List.getElem?_toArray]; rfl) (by kernel_rfl) (by kernel_rfl) (by kernel_rfl) (by intro _ _ _ h; exact h) (Or.inl ⟨by rfl, ?_⟩) (by assumption) ?_
            rotate_left
            · (intro w hSw; (try dsimp only at hSw); go_simp; all_goals with_reducible rfl)
            (try simp only [Act.put, List.setIfInBounds_toArray, List.set_cons_zero, List.set_cons_succ])
            refine wpAnyH_take (i := 24) (v := ?_) (by rw [List.getElem?_toArray]; rfl) (by kernel_rfl) (by kernel_rfl) (by kernel_rfl) (by intro _ _ _ h; exact h) (Or.inl ⟨by rfl, ?_⟩) (by assumption) ?_
            rotate_left
            · (intro w hSw; (try dsimp only at hSw); go_simp; all_goals with_reducible rfl)
            (try simp only [Act.put, List.setIfInBounds_toArray, List.set_cons_zero, List.set_cons_succ])
            refine wpAnyH_take (i := 25) (v := ?_) (by rw [List.getElem?_toArray]; rfl) (by kernel_rfl) (by kernel_rfl) (by kernel_rfl) (by intro _ _ _ h; exact h) (Or.inl ⟨by rfl, ?_⟩) (by assumption) ?_
            rotate_left
            · (intro w hSw; (try dsimp only at hSw); go_simp; all_goals with_reducible rfl)
            (try simp only [Act.put, List.setIfInBounds_toArray, List.set_cons_zero, List.set_cons_succ])
            refine wpAnyH_take (i := 26) (v := ?_) (by rw [List.getElem?_toArray]; rfl) (by kernel_rfl) (by kernel_rfl) (by kernel_rfl) (by intro _ _ _ h; exact h) (Or.inl ⟨by rfl, ?_⟩) (by assumption) ?_
            rotate_left
            · (intro w hSw; (try dsimp only at hSw); go_simp; all_goals with_reducible rfl)
            (try simp only [Act.put, List.setIfInBounds_toArray, List.set_cons_zero, List.set_cons_succ])
            refine wpAnyH_ready (rs := [27]) (by kernel_rfl) (by simp) ?_
            refine AllReadyH.cons (by rw [List.getElem?_toArray]; rfl) (fun K hK => ?_) AllReadyH.nil
            go_simp
            refine (D3 _).mono ?_; rintro e v ⟨rfl, hb⟩; clear Ac0 Ac1 Ac2 Ac3 Ac4 Zc0 Zc1 Zc2 Zc3 Zc4 ci1 ci2 ck2 cj1 cj2 cb; (try clear zz); (replace A := A.below hb); (replace Z := Z.below hb); (replace S := S.belo6 hb); (try (replace N := N.below hb)); (replace B := B.trans (hb.mono B.size)); clear hb; (obtain ⟨Ac0, Ac1, Ac2, Ac3, Ac4⟩ := id A); (obtain ⟨Zc0, Zc1, Zc2, Zc3, Zc4⟩ := id Z); (have ci1 := (S.2 i him).1); (have ci2 := (S.2 i him).2); (have ck2 := (S.2 k hkm).2); (have cj1 := (S.2 j hjm).1); (have cj2 := (S.2 j hjm).2); (have cb := S.1); (try (obtain ⟨zz⟩ := id N))
            (try go_wp2_with fail)
            refine hK.out _ _ ?_ (fun hHeld => ?_)
            · first | exact ⟨Ac1, Ac2, Zc1, Zc2, cj1⟩ | (simp (maxDischargeDepth := 6) [go_sem, *]; done)
            clear hK K
            (try simp only [Act.put, List.setIfInBounds_toArray, List.set_cons_zero, List.set_cons_succ])
            refine wpAnyH_take (i := 28) (v := ?_) (by rw [List.getElem?_toArray]; rfl) (by kernel_rfl) (by kernel_rfl) (by kernel_rfl) (by intro _ _ _ h; exact h) (Or.inl ⟨by rfl, ?_⟩) (by assumption) ?_
            rotate_left
            · (intro w hSw; (try dsimp only at hSw); go_simp; all_goals with_reducible rfl)
            (try simp only [Act.put, List.setIfInBounds_toArray, List.set_cons_zero, List.set_cons_succ])
            refine wpAnyH_take (i := 29) (v := ?_) (by rw [List.getElem?_toArray]; rfl) (by kernel_rfl) (by kernel_rfl) (by kernel_rfl) (by intro _ _ _ h; exact h) (Or.inl ⟨by rfl, ?_⟩) (by assumption) ?_
            rotate_left
            · (intro w hSw; (try dsimp only at hSw); go_simp; all_goals with_reducible rfl)
            (try simp only [Act.put, List.setIfInBounds_toArray, List.set_cons_zero, List.set_cons_succ])
            refine wpAnyH_done (by kernel_rfl) ?_ _
            go_wp2_with fail
            go_ret
            exact ⟨rfl, B⟩
end Go.Proofs.Ytlfbbdeoejafkaa
