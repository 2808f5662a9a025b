/- The walk of FnRuns. -/
import Derived.Test.YtaggohibfghnmaaX930
import Derived.Test.YtaggohibfghnmaaX912
import Derived.Test.YtaggohibfghnmaaX92
import Derived.Test.YtaggohibfghnmaaW6
import Derived.Test.YtaggohibfghnmaaY91
import Derived.Test.YtaggohibfghnmaaK1
import Derived.Deep.RegionHeld3
import Derived.Deep.DeepCutAuto
import Derived.WalkKit
import Derived.WalkSpells
import Derived.WalkLawsBesides
import Derived.Deep.RegionHeld
namespace Go.Proofs.Ytaggohibfghnmaa
open Go.RowKit
set_option linter.unusedVariables false
theorem mid_in {lo hi : Int} (h : okI lo hi = true) : lo ≤ midI lo hi ∧ midI lo hi ≤ hi := by
  have ⟨h1, h2, h3⟩ := okI_t h
  rw [midI_t h]; omega
/- What a law needs of the runs, for every list and number. -/
structure RunsIn (f : Nat → Int × Int) (n : Nat) (k : Int) (R : List (Int × Int)) : Prop where
  ok : ∀ i, i < R.length → okI (R.getD i (0, 0)).1 (R.getD i (0, 0)).2 = true
  inn : ∀ i, i < R.length → ∀ t, (R.getD i (0, 0)).1 ≤ t → t ≤ (R.getD i (0, 0)).2 → k ≤ cvI f n t
  low : ∀ i, i < R.length → cvI f n ((R.getD i (0, 0)).1 - 1) < k
  high : ∀ i, i < R.length → cvI f n ((R.getD i (0, 0)).2 + 1) < k
  gap : ∀ i, 0 < i → i < R.length → (R.getD (i - 1) (0, 0)).2 + 1 < (R.getD i (0, 0)).1
theorem runs_law (f : Nat → Int × Int) (n : Nat) (k : Int) : RunsIn f n k (rnL f n k) := by
  by_cases hg : srcB f n = true ∧ 1 ≤ k
  · obtain ⟨hs, h1⟩ := hg
    have ⟨hn, ho⟩ := srcB_le hs
    rw [rnL_t hs h1]
    obtain ⟨ha, hb⟩ := rns_in (k := k) ho h1
    obtain ⟨hp, hk⟩ := rns_ok (k := k) ho
    have mem : ∀ i, i < (rns f n k).length → (rns f n k).getD i (0, 0) ∈ rns f n k := fun i hi => by
      rw [List.getD_eq_getElem?_getD, List.getElem?_eq_getElem hi]; exact List.getElem_mem hi
    exact ⟨fun i hi => ok_at hk hi, fun i hi t a b => by rw [cvI_t hs]; exact (ha _ (mem i hi)).1 t a b, fun i hi => by rw [cvI_t hs]; exact (ha _ (mem i hi)).2.1, fun i hi => by rw [cvI_t hs]; exact (ha _ (mem i hi)).2.2, fun i h0 hi => asc_at hp (by omega) hi⟩
  · have e : rnL f n k = [] := if_neg hg
    rw [e]
    exact ⟨fun i hi => by simp at hi, fun i hi => by simp at hi, fun i hi => by simp at hi, fun i hi => by simp at hi, fun i _ hi => by simp at hi⟩
theorem most_law (f : Nat → Int × Int) (n : Nat) : (0 ≤ mcI f n ∧ mcI f n ≤ 12) ∧ (0 < mcI f n → cvI f n (mcR f n).1 = mcI f n) ∧ rnL f n (mcI f n + 1) = [] := by
  cases hs : srcB f n
  · rw [mcI_f hs]
    exact ⟨by omega, fun h => absurd h (by omega), rnL_f hs⟩
  · have ⟨hn, ho⟩ := srcB_le hs
    have e := mcI_t hs
    have hl := mst_le (f := f) (n := n)
    have h0 := mst_nonneg (trs f n)
    refine ⟨by omega, fun h => ?_, ?_⟩
    · have h1 : 1 ≤ mcI f n := by omega
      have hne : 0 < (rns f n (mcI f n)).length := List.length_pos_iff.2 ((rns_iff h1).2 (by omega))
      obtain ⟨c1, -⟩ := hull_in ho h1 hne
      have hr : (mcR f n).1 = hlL (rns f n (mcI f n)) := by rw [mcR, rnL_t hs h1]; rfl
      rw [cvI_t hs, hr]
      by_cases hgt : mcI f n + 1 ≤ (cov f n (hlL (rns f n (mcI f n))) : Int)
      · obtain ⟨r, hr2, _⟩ := (rns_in (k := mcI f n + 1) ho (by omega)).2 _ hgt
        have hh := (rns_iff (f := f) (n := n) (k := mcI f n + 1) (by omega)).1 (fun e2 => by rw [e2] at hr2; simp at hr2)
        omega
      · omega
    · rw [rnL_t hs (by omega)]
      cases hr : rns f n (mcI f n + 1) with
      | nil => rfl
      | cons x l => exact absurd ((rns_iff (f := f) (n := n) (k := mcI f n + 1) (by omega)).1 (by rw [hr]; simp)) (by omega)
set_option maxRecDepth 100000 in
set_option maxHeartbeats 8000000 in
theorem walkRuns (a : Option Addr) (n c : Nat) (w : World) (hcode : CodeB w w.heap.size a n) :
    Calls Try.prog 5 #[.slice a n c] w fun e w' => e = .returned (.bool true) ∧ Below w.heap.size w w' := by
  have HC : Hid (CodeB w w.heap.size a n) := hcode
  clear hcode
  by_cases hbig : 1048576 < n
  · have hd : decide (1048576 < (n : Int)) = true := by simp; omega
    go_enter Try.func5, Try.ntmps5
    go_wp2_with fail
    refine (big_any _ _ _ _).mono ?_
    rintro e w' ⟨rfl, rfl⟩
    rw [hd]
    go_wp2_with fail
    go_ret
    exact ⟨rfl, Below.refl _ _⟩
  · have hd : decide (1048576 < (n : Int)) = false := by simp; omega
    go_enter Try.func5, Try.ntmps5
    go_wp2_with fail
    refine (big_any _ _ _ _).mono ?_
    rintro e w' ⟨rfl, rfl⟩
    rw [hd]
    go_wp2_with fail
    refine (DrawCoverRuns_any a n c _ (by omega) HC.out).mono ?_
    rintro e w1 ⟨v, L, k, rfl, o1, hL, k0, k1, B1⟩
    obtain ⟨a1, c1, rfl, hc1, hcm, S1⟩ := own_src o1
    have HS : Hid (Src w1 a1 L.length fun i => L.getD i (0, 0)) := S1
    clear S1 hbig HC o1 hd
    generalize (fun i => L.getD i (0, 0)) = f at *
    have hLm : L.length ≤ maxLen := by unfold maxLen; omega
    generalize L.length = m at *
    have hB1 := B1.size
    have CR := fun (v : World) (k : Int) (hb : Below w1.heap.size w1 v) => implRuns_any a1 m c1 f k v hLm (HS.out.below hb)
    have CSr := fun (v : World) (k : Int) (hb : Below w1.heap.size w1 v) => specRuns_any a1 m c1 f k v hLm (HS.out.below hb)
    have CC := fun (t : Int) (v : World) (hb : Below w1.heap.size w1 v) => implCoverAt a1 m c1 f t v hLm (HS.out.below hb)
    have CMi := fun (v : World) (hb : Below w1.heap.size w1 v) => implMost a1 m c1 f v hLm (HS.out.below hb)
    have CMs := fun (v : World) (hb : Below w1.heap.size w1 v) => specMost a1 m c1 f v hLm (HS.out.below hb)
    have HR : Hid (RunsIn f m k (rnL f m k)) := runs_law f m k
    have hRl := (rnL_ok f m k).2.2
    obtain ⟨⟨q0, q1⟩, hq2, hq3⟩ := most_law f m
    have HQ2 : Hid (0 < mcI f m → cvI f m (mcR f m).1 = mcI f m) := hq2
    have HQ3 : Hid (rnL f m (mcI f m + 1) = []) := hq3
    clear HS hq2 hq3
    have B0 := Below.refl w1.heap.size w1
    go_wp2_with fail
    refine (CR _ k B0).mono ?_
    rintro e w2 ⟨vr, rfl, RO, B⟩
    clear B0
    obtain ⟨ar, cr, rfl, hrc, hrm, -⟩ := own_src RO
    go_wp2_with fail
    refine (CSr _ k B).mono ?_
    rintro e w3 ⟨vs, rfl, so, hb⟩
    obtain ⟨as9, cs9, rfl, -, -, -⟩ := own_src so
    replace RO := own_below RO hb
    replace B := B.trans (hb.mono B.size)
    clear hb so CSr
    have HG : Hid (∀ i : Nat, rnL f m k = rnL f m k) := fun _ => rfl
    generalize hR : rnL f m k = R at *
    clear hR HG
    go_wp2_with fail
    go_loopw [6] (fun q wr => ∃ i : Nat, i ≤ R.length ∧ q = .int .i64 i ∧ wr.ownsRow w1.heap.size 25 2 (.slice ar R.length cr) R.length (prs R) ∧ Below w1.heap.size w1 wr) (fun q _ => R.length - (intOf q).toNat)
    case atStart => exact ⟨0, Nat.zero_le _, rfl, RO, B⟩
    case round =>
      clear RO B
      obtain ⟨i, hi, rfl, RO, B⟩ := hrel
      by_cases hlt : i < R.length
      · have hli : (i : Int) < (R.length : Int) := by omega
        have hok := HR.out.ok i hlt
        have hin := HR.out.inn i hlt
        have hlow := HR.out.low i hlt
        have hhigh := HR.out.high i hlt
        have hgap := HR.out.gap i
        obtain ⟨gr, hgr⟩ : ∃ gr, ar = some ⟨gr, 0, none⟩ := by
          obtain ⟨g, cap, e⟩ := own_some2 RO (by omega)
          simp at e
          exact ⟨g, e.1⟩
        subst hgr
        have CELL : ∀ v : World, v.ownsRow w1.heap.size 25 2 (.slice (some ⟨gr, 0, none⟩) R.length cr) R.length (prs R) → ∀ q, q < R.length → v.cell? ⟨gr, q * 2, none⟩ = some (.int .i64 (R.getD q (0, 0)).1) ∧ v.cell? ⟨gr, q * 2 + 1, none⟩ = some (.int .i64 (R.getD q (0, 0)).2) := fun v ho q hq => by
          obtain ⟨a', c', e, _, _, S'⟩ := own_src ho
          rcases S' with h | ⟨b, off, e2, hp⟩
          · omega
          · simp at e
            rw [← e.1] at e2
            simp at e2
            obtain ⟨rfl, rfl⟩ := e2
            have := hp.2 q hq
            simpa using this
        obtain ⟨c0, c1'⟩ := CELL _ RO i hlt
        have PREV : 0 < i → ∀ v : World, v.ownsRow w1.heap.size 25 2 (.slice (some ⟨gr, 0, none⟩) R.length cr) R.length (prs R) → v.cell? ⟨gr, (i - 1) * 2 + 1, none⟩ = some (.int .i64 (R.getD (i - 1) (0, 0)).2) := fun h0 v ho => (CELL v ho (i - 1) (by omega)).2
        clear CELL
        have hpk : 0 < i → okI (R.getD (i - 1) (0, 0)).1 (R.getD (i - 1) (0, 0)).2 = true := fun h0 => HR.out.ok (i - 1) (by omega)
        generalize (R.getD (i - 1) (0, 0)).2 = ph at *
        generalize (R.getD (i - 1) (0, 0)).1 = pl9 at *
        generalize (R.getD i (0, 0)).1 = lo at *
        generalize (R.getD i (0, 0)).2 = hi9 at *
        have ⟨z1, z2, z3⟩ := okI_t hok
        have ⟨y1, y2⟩ := mid_in hok
        have g1 := hin lo (Int.le_refl _) z1
        have g2 := hin hi9 z1 (Int.le_refl _)
        have g3 := hin (midI lo hi9) y1 y2
        have CM := fun (v : World) => implMiddle_any lo hi9 v
        rw [hok] at CM
        generalize midI lo hi9 = md at *
        have d1 : decide (cvI f m lo < k) = false := by simp; omega
        have d2 : decide (cvI f m hi9 < k) = false := by simp; omega
        have d3 : decide (cvI f m md < k) = false := by simp; omega
        have d4 : decide (k ≤ cvI f m (lo - 1)) = false := by simp; omega
        have d5 : decide (k ≤ cvI f m (hi9 + 1)) = false := by simp; omega
        have wl : IntKind.i64.wrap (lo - 1) = lo - 1 := wrap_in9 (by omega) (by omega)
        have wh : IntKind.i64.wrap (hi9 + 1) = hi9 + 1 := wrap_in9 (by omega) (by omega)
        clear hin hlow hhigh g1 g2 g3 hok
        have A := Below.al9 wr (.cells #[.int .i64 lo, .int .i64 hi9] 25)
        have X := Vb.new wr lo hi9 25
        replace RO := own_below RO A
        replace B := B.trans (A.mono B.size)
        clear A
        go_upto_region 11 with fail
        clear c0 c1'
        generalize hjx : wr.heap.size = jx at *
        generalize wr.alloc (.cells #[.int .i64 lo, .int .i64 hi9] 25) = v at *
        clear hjx
        obtain ⟨x0, x1, x2, x3, x4⟩ := id X
        go_wp2_with fail
        refine (CM _).mono ?_
        rintro e v' ⟨rfl, hb⟩
        clear x0 x1 x2 x3 x4
        replace X := X.below hb
        replace RO := own_below RO hb
        replace B := B.trans (hb.mono B.size)
        clear hb
        obtain ⟨x0, x1, x2, x3, x4⟩ := id X
        go_wp2_with fail
        refine (CC _ _ B).mono ?_
        rintro e u0 ⟨rfl, hb⟩
        clear x0 x1 x2 x3 x4
        replace X := X.below hb
        replace RO := own_below RO hb
        replace B := B.trans (hb.mono B.size)
        clear hb
        obtain ⟨x0, x1, x2, x3, x4⟩ := id X
        go_wp2_with fail
        refine (CC _ _ B).mono ?_
        rintro e u1 ⟨rfl, hb⟩
        clear x0 x1 x2 x3 x4
        replace X := X.below hb
        replace RO := own_below RO hb
        replace B := B.trans (hb.mono B.size)
        clear hb
        obtain ⟨x0, x1, x2, x3, x4⟩ := id X
        go_wp2_with fail
        refine (CC _ _ B).mono ?_
        rintro e u2 ⟨rfl, hb⟩
        clear x0 x1 x2 x3 x4
        replace X := X.below hb
        replace RO := own_below RO hb
        replace B := B.trans (hb.mono B.size)
        clear hb
        obtain ⟨x0, x1, x2, x3, x4⟩ := id X
        go_wp2_with fail
        generalize u2 = v at *
        by_cases h0 : i = 0
        · have d6 : decide ((0 : Int) < (i : Int)) = false := by simp; omega
          have d6n : decide (0 < i) = false := by simp; omega
          clear PREV hgap hpk
          refine wp_region_held_drew (S := (fun w' => w'.cell? ⟨jx, 0, none⟩ = some (.int .i64 lo) ∧ w'.cell? ⟨jx, 1, none⟩ = some (.int .i64 hi9))) (by kernel_rfl) ?_ (fun hHeld => ?_)
          · first | exact ⟨x1, x2⟩ | (simp (maxDischargeDepth := 6) [go_sem, *]; done)
          (replace X := X.drew)
          (replace B := Below.drew B)
          (have RO : (World.drew v).ownsRow w1.heap.size 25 2 (.slice (some ⟨gr, 0, none⟩) R.length cr) R.length (prs R) := RO)
          clear x0 x1 x2 x3 x4
          (generalize v.drew = v at *)
          obtain ⟨x0, x1, x2, x3, x4⟩ := id X
          refine wpAnyH_take (i := 0) (v := ?_) (by rw [List.getElem?_toArray]; rfl) (by kernel_rfl) (by kernel_rfl) (by kernel_rfl) (by intro _ _ _ h; exact h) (Or.inl ⟨by rfl, ?_⟩) (by assumption) ?_
          rotate_left
          · (intro w hSw; (try dsimp only at hSw); go_simp; all_goals with_reducible rfl)
          (try simp only [Act.put, List.setIfInBounds_toArray, List.set_cons_zero, List.set_cons_succ])
          refine wpAnyH_take (i := 1) (v := ?_) (by rw [List.getElem?_toArray]; rfl) (by kernel_rfl) (by kernel_rfl) (by kernel_rfl) (by intro _ _ _ h; exact h) (Or.inl ⟨by rfl, ?_⟩) (by assumption) ?_
          rotate_left
          · (intro w hSw; (try dsimp only at hSw); go_simp; all_goals with_reducible rfl)
          (try simp only [Act.put, List.setIfInBounds_toArray, List.set_cons_zero, List.set_cons_succ])
          refine wpAnyH_take (i := 2) (v := ?_) (by rw [List.getElem?_toArray]; rfl) (by kernel_rfl) (by kernel_rfl) (by kernel_rfl) (by intro _ _ _ h; exact h) (Or.inl ⟨by rfl, ?_⟩) (by assumption) ?_
          rotate_left
          · (intro w hSw; (try dsimp only at hSw); go_simp; all_goals with_reducible rfl)
          (try simp only [Act.put, List.setIfInBounds_toArray, List.set_cons_zero, List.set_cons_succ])
          refine wpAnyH_take (i := 3) (v := ?_) (by rw [List.getElem?_toArray]; rfl) (by kernel_rfl) (by kernel_rfl) (by kernel_rfl) (by intro _ _ _ h; exact h) (Or.inl ⟨by rfl, ?_⟩) (by assumption) ?_
          rotate_left
          · (intro w hSw; (try dsimp only at hSw); go_simp; all_goals with_reducible rfl)
          (try simp only [Act.put, List.setIfInBounds_toArray, List.set_cons_zero, List.set_cons_succ])
          refine wpAnyH_take (i := 5) (v := ?_) (by rw [List.getElem?_toArray]; rfl) (by kernel_rfl) (by kernel_rfl) (by kernel_rfl) (by intro _ _ _ h; exact h) (Or.inl ⟨by rfl, ?_⟩) (by assumption) ?_
          rotate_left
          · (intro w hSw; (try dsimp only at hSw); go_simp; all_goals with_reducible rfl)
          (try simp only [Act.put, List.setIfInBounds_toArray, List.set_cons_zero, List.set_cons_succ])
          refine wpAnyH_ready (rs := [4]) (by kernel_rfl) (by simp) ?_
          refine AllReadyH.cons (by rw [List.getElem?_toArray]; rfl) (fun K hK => ?_) AllReadyH.nil
          go_simp
          refine (CC _ _ B).mono ?_; rintro e v ⟨rfl, hb⟩; clear x0 x1 x2 x3 x4; (replace X := X.below hb); (replace RO := own_below RO hb); (replace B := B.trans (hb.mono B.size)); clear hb; obtain ⟨x0, x1, x2, x3, x4⟩ := id X
          (try go_wp2_with fail)
          refine hK.out _ _ ?_ (fun hHeld => ?_)
          · first | exact ⟨x1, x2⟩ | (simp (maxDischargeDepth := 6) [go_sem, *]; done)
          clear hK K
          (try simp only [Act.put, List.setIfInBounds_toArray, List.set_cons_zero, List.set_cons_succ])
          refine wpAnyH_take (i := 6) (v := ?_) (by rw [List.getElem?_toArray]; rfl) (by kernel_rfl) (by kernel_rfl) (by kernel_rfl) (by intro _ _ _ h; exact h) (Or.inl ⟨by rfl, ?_⟩) (by assumption) ?_
          rotate_left
          · (intro w hSw; (try dsimp only at hSw); go_simp; all_goals with_reducible rfl)
          (try simp only [Act.put, List.setIfInBounds_toArray, List.set_cons_zero, List.set_cons_succ])
          (try simp only [d4])
          refine wpAnyH_take (i := 7) (v := ?_) (by rw [List.getElem?_toArray]; rfl) (by kernel_rfl) (by kernel_rfl) (by kernel_rfl) (by intro _ _ _ h; exact h) (Or.inl ⟨by rfl, ?_⟩) (by assumption) ?_
          rotate_left
          · (intro w hSw; (try dsimp only at hSw); go_simp; all_goals with_reducible rfl)
          (try simp only [Act.put, List.setIfInBounds_toArray, List.set_cons_zero, List.set_cons_succ])
          refine wpAnyH_take (i := 8) (v := ?_) (by rw [List.getElem?_toArray]; rfl) (by kernel_rfl) (by kernel_rfl) (by kernel_rfl) (by intro _ _ _ h; exact h) (Or.inl ⟨by rfl, ?_⟩) (by assumption) ?_
          rotate_left
          · (intro w hSw; (try dsimp only at hSw); go_simp; all_goals with_reducible rfl)
          (try simp only [Act.put, List.setIfInBounds_toArray, List.set_cons_zero, List.set_cons_succ])
          refine wpAnyH_take (i := 9) (v := ?_) (by rw [List.getElem?_toArray]; rfl) (by kernel_rfl) (by kernel_rfl) (by kernel_rfl) (by intro _ _ _ h; exact h) (Or.inl ⟨by rfl, ?_⟩) (by assumption) ?_
          rotate_left
          · (intro w hSw; (try dsimp only at hSw); go_simp; all_goals with_reducible rfl)
          (try simp only [Act.put, List.setIfInBounds_toArray, List.set_cons_zero, List.set_cons_succ])
          refine wpAnyH_take (i := 10) (v := ?_) (by rw [List.getElem?_toArray]; rfl) (by kernel_rfl) (by kernel_rfl) (by kernel_rfl) (by intro _ _ _ h; exact h) (Or.inl ⟨by rfl, ?_⟩) (by assumption) ?_
          rotate_left
          · (intro w hSw; (try dsimp only at hSw); go_simp; all_goals with_reducible rfl)
          (try simp only [Act.put, List.setIfInBounds_toArray, List.set_cons_zero, List.set_cons_succ])
          refine wpAnyH_take (i := 11) (v := ?_) (by rw [List.getElem?_toArray]; rfl) (by kernel_rfl) (by kernel_rfl) (by kernel_rfl) (by intro _ _ _ h; exact h) (Or.inl ⟨by rfl, ?_⟩) (by assumption) ?_
          rotate_left
          · (intro w hSw; (try dsimp only at hSw); go_simp; all_goals with_reducible rfl)
          (try simp only [Act.put, List.setIfInBounds_toArray, List.set_cons_zero, List.set_cons_succ])
          refine wpAnyH_take (i := 13) (v := ?_) (by rw [List.getElem?_toArray]; rfl) (by kernel_rfl) (by kernel_rfl) (by kernel_rfl) (by intro _ _ _ h; exact h) (Or.inl ⟨by rfl, ?_⟩) (by assumption) ?_
          rotate_left
          · (intro w hSw; (try dsimp only at hSw); go_simp; all_goals with_reducible rfl)
          (try simp only [Act.put, List.setIfInBounds_toArray, List.set_cons_zero, List.set_cons_succ])
          refine wpAnyH_ready (rs := [12]) (by kernel_rfl) (by simp) ?_
          refine AllReadyH.cons (by rw [List.getElem?_toArray]; rfl) (fun K hK => ?_) AllReadyH.nil
          go_simp
          refine (CC _ _ B).mono ?_; rintro e v ⟨rfl, hb⟩; clear x0 x1 x2 x3 x4; (replace X := X.below hb); (replace RO := own_below RO hb); (replace B := B.trans (hb.mono B.size)); clear hb; obtain ⟨x0, x1, x2, x3, x4⟩ := id X
          (try go_wp2_with fail)
          refine hK.out _ _ ?_ (fun hHeld => ?_)
          · first | exact ⟨x1, x2⟩ | (simp (maxDischargeDepth := 6) [go_sem, *]; done)
          clear hK K
          (try simp only [Act.put, List.setIfInBounds_toArray, List.set_cons_zero, List.set_cons_succ])
          refine wpAnyH_take (i := 14) (v := ?_) (by rw [List.getElem?_toArray]; rfl) (by kernel_rfl) (by kernel_rfl) (by kernel_rfl) (by intro _ _ _ h; exact h) (Or.inl ⟨by rfl, ?_⟩) (by assumption) ?_
          rotate_left
          · (intro w hSw; (try dsimp only at hSw); go_simp; all_goals with_reducible rfl)
          (try simp only [Act.put, List.setIfInBounds_toArray, List.set_cons_zero, List.set_cons_succ])
          (try simp only [d5])
          refine wpAnyH_take (i := 15) (v := ?_) (by rw [List.getElem?_toArray]; rfl) (by kernel_rfl) (by kernel_rfl) (by kernel_rfl) (by intro _ _ _ h; exact h) (Or.inl ⟨by rfl, ?_⟩) (by assumption) ?_
          rotate_left
          · (intro w hSw; (try dsimp only at hSw); go_simp; all_goals with_reducible rfl)
          (try simp only [Act.put, List.setIfInBounds_toArray, List.set_cons_zero, List.set_cons_succ])
          refine wpAnyH_take (i := 16) (v := ?_) (by rw [List.getElem?_toArray]; rfl) (by kernel_rfl) (by kernel_rfl) (by kernel_rfl) (by intro _ _ _ h; exact h) (Or.inl ⟨by rfl, ?_⟩) (by assumption) ?_
          rotate_left
          · (intro w hSw; (try dsimp only at hSw); go_simp; all_goals with_reducible rfl)
          (try simp only [Act.put, List.setIfInBounds_toArray, List.set_cons_zero, List.set_cons_succ])
          refine wpAnyH_take (i := 17) (v := ?_) (by rw [List.getElem?_toArray]; rfl) (by kernel_rfl) (by kernel_rfl) (by kernel_rfl) (by intro _ _ _ h; exact h) (Or.inl ⟨by rfl, ?_⟩) (by assumption) ?_
          rotate_left
          · (intro w hSw; (try dsimp only at hSw); go_simp; all_goals with_reducible rfl)
          (try simp only [Act.put, List.setIfInBounds_toArray, List.set_cons_zero, List.set_cons_succ])
          refine wpAnyH_take (i := 18) (v := ?_) (by rw [List.getElem?_toArray]; rfl) (by kernel_rfl) (by kernel_rfl) (by kernel_rfl) (by intro _ _ _ h; exact h) (Or.inl ⟨by rfl, ?_⟩) (by assumption) ?_
          rotate_left
          · (intro w hSw; (try dsimp only at hSw); go_simp; all_goals with_reducible rfl)
          (try simp only [Act.put, List.setIfInBounds_toArray, List.set_cons_zero, List.set_cons_succ])
          (try simp only [d6])
          (try simp only [d6n])
          refine wpAnyH_take (i := 19) (v := ?_) (by rw [List.getElem?_toArray]; rfl) (by kernel_rfl) (by kernel_rfl) (by kernel_rfl) (by intro _ _ _ h; exact h) (Or.inl ⟨by rfl, ?_⟩) (by assumption) ?_
          rotate_left
          · (intro w hSw; (try dsimp only at hSw); go_simp; all_goals with_reducible rfl)
          (try simp only [Act.put, List.setIfInBounds_toArray, List.set_cons_zero, List.set_cons_succ])
          refine wpAnyH_take (i := 20) (v := undef) (by rw [List.getElem?_toArray]; rfl) (by kernel_rfl) (by kernel_rfl) (by kernel_rfl) (by intro _ _ _ h; exact h) (Or.inr ⟨by rfl, rfl⟩) (by assumption) ?_
          (try simp only [Act.put, List.setIfInBounds_toArray, List.set_cons_zero, List.set_cons_succ])
          refine wpAnyH_take (i := 21) (v := undef) (by rw [List.getElem?_toArray]; rfl) (by kernel_rfl) (by kernel_rfl) (by kernel_rfl) (by intro _ _ _ h; exact h) (Or.inr ⟨by rfl, rfl⟩) (by assumption) ?_
          (try simp only [Act.put, List.setIfInBounds_toArray, List.set_cons_zero, List.set_cons_succ])
          refine wpAnyH_take (i := 22) (v := undef) (by rw [List.getElem?_toArray]; rfl) (by kernel_rfl) (by kernel_rfl) (by kernel_rfl) (by intro _ _ _ h; exact h) (Or.inr ⟨by rfl, rfl⟩) (by assumption) ?_
          (try simp only [Act.put, List.setIfInBounds_toArray, List.set_cons_zero, List.set_cons_succ])
          refine wpAnyH_take (i := 23) (v := undef) (by rw [List.getElem?_toArray]; rfl) (by kernel_rfl) (by kernel_rfl) (by kernel_rfl) (by intro _ _ _ h; exact h) (Or.inr ⟨by rfl, rfl⟩) (by assumption) ?_
          (try simp only [Act.put, List.setIfInBounds_toArray, List.set_cons_zero, List.set_cons_succ])
          refine wpAnyH_take (i := 24) (v := undef) (by rw [List.getElem?_toArray]; rfl) (by kernel_rfl) (by kernel_rfl) (by kernel_rfl) (by intro _ _ _ h; exact h) (Or.inr ⟨by rfl, rfl⟩) (by assumption) ?_
          (try simp only [Act.put, List.setIfInBounds_toArray, List.set_cons_zero, List.set_cons_succ])
          refine wpAnyH_take (i := 25) (v := undef) (by rw [List.getElem?_toArray]; rfl) (by kernel_rfl) (by kernel_rfl) (by kernel_rfl) (by intro _ _ _ h; exact h) (Or.inr ⟨by rfl, rfl⟩) (by assumption) ?_
          (try simp only [Act.put, List.setIfInBounds_toArray, List.set_cons_zero, List.set_cons_succ])
          refine wpAnyH_take (i := 26) (v := undef) (by rw [List.getElem?_toArray]; rfl) (by kernel_rfl) (by kernel_rfl) (by kernel_rfl) (by intro _ _ _ h; exact h) (Or.inr ⟨by rfl, rfl⟩) (by assumption) ?_
          (try simp only [Act.put, List.setIfInBounds_toArray, List.set_cons_zero, List.set_cons_succ])
          refine wpAnyH_take (i := 27) (v := undef) (by rw [List.getElem?_toArray]; rfl) (by kernel_rfl) (by kernel_rfl) (by kernel_rfl) (by intro _ _ _ h; exact h) (Or.inr ⟨by rfl, rfl⟩) (by assumption) ?_
          (try simp only [Act.put, List.setIfInBounds_toArray, List.set_cons_zero, List.set_cons_succ])
          refine wpAnyH_take (i := 28) (v := undef) (by rw [List.getElem?_toArray]; rfl) (by kernel_rfl) (by kernel_rfl) (by kernel_rfl) (by intro _ _ _ h; exact h) (Or.inr ⟨by rfl, rfl⟩) (by assumption) ?_
          (try simp only [Act.put, List.setIfInBounds_toArray, List.set_cons_zero, List.set_cons_succ])
          refine wpAnyH_take (i := 29) (v := undef) (by rw [List.getElem?_toArray]; rfl) (by kernel_rfl) (by kernel_rfl) (by kernel_rfl) (by intro _ _ _ h; exact h) (Or.inr ⟨by rfl, rfl⟩) (by assumption) ?_
          (try simp only [Act.put, List.setIfInBounds_toArray, List.set_cons_zero, List.set_cons_succ])
          refine wpAnyH_take (i := 30) (v := ?_) (by rw [List.getElem?_toArray]; rfl) (by kernel_rfl) (by kernel_rfl) (by kernel_rfl) (by intro _ _ _ h; exact h) (Or.inl ⟨by rfl, ?_⟩) (by assumption) ?_
          rotate_left
          · (intro w hSw; (try dsimp only at hSw); go_simp; all_goals with_reducible rfl)
          (try simp only [Act.put, List.setIfInBounds_toArray, List.set_cons_zero, List.set_cons_succ])
          refine wpAnyH_take (i := 31) (v := ?_) (by rw [List.getElem?_toArray]; rfl) (by kernel_rfl) (by kernel_rfl) (by kernel_rfl) (by intro _ _ _ h; exact h) (Or.inl ⟨by rfl, ?_⟩) (by assumption) ?_
          rotate_left
          · (intro w hSw; (try dsimp only at hSw); go_simp; all_goals with_reducible rfl)
          (try simp only [Act.put, List.setIfInBounds_toArray, List.set_cons_zero, List.set_cons_succ])
          refine wpAnyH_done (by kernel_rfl) ?_ _
          go_wp2_with fail
          go_roundw
          case rel => exact ⟨i + 1, by omega, by go_num, RO, B⟩
          case measure => simp [intOf]; omega
        · have d6 : decide ((0 : Int) < (i : Int)) = true := by simp; omega
          have d6n : decide (0 < i) = true := by simp; omega
          have hg2 := hgap (by omega) hlt
          have ⟨t1, t2, t3⟩ := okI_t (hpk (by omega))
          have PREV := PREV (by omega)
          have d7 : decide (lo ≤ ph + 1) = false := by simp; omega
          have wi : IntKind.i64.wrap ((i : Int) - 1) = ((i - 1 : Nat) : Int) := by rw [show ((i : Int) - 1) = ((i - 1 : Nat) : Int) by omega]; exact wrap_in9 (by omega) (by omega)
          have wp : IntKind.i64.wrap (ph + 1) = ph + 1 := wrap_in9 (by omega) (by omega)
          have hil : ((i - 1 : Nat) : Int) < (R.length : Int) := by omega
          have hin0 : (0 : Int) ≤ ((i - 1 : Nat) : Int) := by omega
          have tn : ((i - 1 : Nat) : Int).toNat = i - 1 := by omega
          have pc := PREV _ RO
          clear hgap hpk
          refine wp_region_held_drew (S := (fun w' => w'.cell? ⟨jx, 0, none⟩ = some (.int .i64 lo) ∧ w'.cell? ⟨jx, 1, none⟩ = some (.int .i64 hi9) ∧ w'.cell? ⟨gr, (i - 1) * 2 + 1, none⟩ = some (.int .i64 ph))) (by kernel_rfl) ?_ (fun hHeld => ?_)
          · first | exact ⟨x1, x2, pc⟩ | (simp (maxDischargeDepth := 6) [go_sem, *]; done)
          (replace X := X.drew)
          (replace B := Below.drew B)
          (have RO : (World.drew v).ownsRow w1.heap.size 25 2 (.slice (some ⟨gr, 0, none⟩) R.length cr) R.length (prs R) := RO)
          clear x0 x1 x2 x3 x4 pc
          (generalize v.drew = v at *)
          obtain ⟨x0, x1, x2, x3, x4⟩ := id X; (have pc := PREV _ RO)
          refine wpAnyH_take (i := 0) (v := ?_) (by rw [List.getElem?_toArray]; rfl) (by kernel_rfl) (by kernel_rfl) (by kernel_rfl) (by intro _ _ _ h; exact h) (Or.inl ⟨by rfl, ?_⟩) (by assumption) ?_
          rotate_left
          · (intro w hSw; (try dsimp only at hSw); go_simp; all_goals with_reducible rfl)
          (try simp only [Act.put, List.setIfInBounds_toArray, List.set_cons_zero, List.set_cons_succ])
          refine wpAnyH_take (i := 1) (v := ?_) (by rw [List.getElem?_toArray]; rfl) (by kernel_rfl) (by kernel_rfl) (by kernel_rfl) (by intro _ _ _ h; exact h) (Or.inl ⟨by rfl, ?_⟩) (by assumption) ?_
          rotate_left
          · (intro w hSw; (try dsimp only at hSw); go_simp; all_goals with_reducible rfl)
          (try simp only [Act.put, List.setIfInBounds_toArray, List.set_cons_zero, List.set_cons_succ])
          refine wpAnyH_take (i := 2) (v := ?_) (by rw [List.getElem?_toArray]; rfl) (by kernel_rfl) (by kernel_rfl) (by kernel_rfl) (by intro _ _ _ h; exact h) (Or.inl ⟨by rfl, ?_⟩) (by assumption) ?_
          rotate_left
          · (intro w hSw; (try dsimp only at hSw); go_simp; all_goals with_reducible rfl)
          (try simp only [Act.put, List.setIfInBounds_toArray, List.set_cons_zero, List.set_cons_succ])
          refine wpAnyH_take (i := 3) (v := ?_) (by rw [List.getElem?_toArray]; rfl) (by kernel_rfl) (by kernel_rfl) (by kernel_rfl) (by intro _ _ _ h; exact h) (Or.inl ⟨by rfl, ?_⟩) (by assumption) ?_
          rotate_left
          · (intro w hSw; (try dsimp only at hSw); go_simp; all_goals with_reducible rfl)
          (try simp only [Act.put, List.setIfInBounds_toArray, List.set_cons_zero, List.set_cons_succ])
          refine wpAnyH_take (i := 5) (v := ?_) (by rw [List.getElem?_toArray]; rfl) (by kernel_rfl) (by kernel_rfl) (by kernel_rfl) (by intro _ _ _ h; exact h) (Or.inl ⟨by rfl, ?_⟩) (by assumption) ?_
          rotate_left
          · (intro w hSw; (try dsimp only at hSw); go_simp; all_goals with_reducible rfl)
          (try simp only [Act.put, List.setIfInBounds_toArray, List.set_cons_zero, List.set_cons_succ])
          refine wpAnyH_ready (rs := [4]) (by kernel_rfl) (by simp) ?_
          refine AllReadyH.cons (by rw [List.getElem?_toArray]; rfl) (fun K hK => ?_) AllReadyH.nil
          go_simp
          refine (CC _ _ B).mono ?_; rintro e v ⟨rfl, hb⟩; clear x0 x1 x2 x3 x4 pc; (replace X := X.below hb); (replace RO := own_below RO hb); (replace B := B.trans (hb.mono B.size)); clear hb; obtain ⟨x0, x1, x2, x3, x4⟩ := id X; (have pc := PREV _ RO)
          (try go_wp2_with fail)
          refine hK.out _ _ ?_ (fun hHeld => ?_)
          · first | exact ⟨x1, x2, pc⟩ | (simp (maxDischargeDepth := 6) [go_sem, *]; done)
          clear hK K
          (try simp only [Act.put, List.setIfInBounds_toArray, List.set_cons_zero, List.set_cons_succ])
          refine wpAnyH_take (i := 6) (v := ?_) (by rw [List.getElem?_toArray]; rfl) (by kernel_rfl) (by kernel_rfl) (by kernel_rfl) (by intro _ _ _ h; exact h) (Or.inl ⟨by rfl, ?_⟩) (by assumption) ?_
          rotate_left
          · (intro w hSw; (try dsimp only at hSw); go_simp; all_goals with_reducible rfl)
          (try simp only [Act.put, List.setIfInBounds_toArray, List.set_cons_zero, List.set_cons_succ])
          (try simp only [d4])
          refine wpAnyH_take (i := 7) (v := ?_) (by rw [List.getElem?_toArray]; rfl) (by kernel_rfl) (by kernel_rfl) (by kernel_rfl) (by intro _ _ _ h; exact h) (Or.inl ⟨by rfl, ?_⟩) (by assumption) ?_
          rotate_left
          · (intro w hSw; (try dsimp only at hSw); go_simp; all_goals with_reducible rfl)
          (try simp only [Act.put, List.setIfInBounds_toArray, List.set_cons_zero, List.set_cons_succ])
          refine wpAnyH_take (i := 8) (v := ?_) (by rw [List.getElem?_toArray]; rfl) (by kernel_rfl) (by kernel_rfl) (by kernel_rfl) (by intro _ _ _ h; exact h) (Or.inl ⟨by rfl, ?_⟩) (by assumption) ?_
          rotate_left
          · (intro w hSw; (try dsimp only at hSw); go_simp; all_goals with_reducible rfl)
          (try simp only [Act.put, List.setIfInBounds_toArray, List.set_cons_zero, List.set_cons_succ])
          refine wpAnyH_take (i := 9) (v := ?_) (by rw [List.getElem?_toArray]; rfl) (by kernel_rfl) (by kernel_rfl) (by kernel_rfl) (by intro _ _ _ h; exact h) (Or.inl ⟨by rfl, ?_⟩) (by assumption) ?_
          rotate_left
          · (intro w hSw; (try dsimp only at hSw); go_simp; all_goals with_reducible rfl)
          (try simp only [Act.put, List.setIfInBounds_toArray, List.set_cons_zero, List.set_cons_succ])
          refine wpAnyH_take (i := 10) (v := ?_) (by rw [List.getElem?_toArray]; rfl) (by kernel_rfl) (by kernel_rfl) (by kernel_rfl) (by intro _ _ _ h; exact h) (Or.inl ⟨by rfl, ?_⟩) (by assumption) ?_
          rotate_left
          · (intro w hSw; (try dsimp only at hSw); go_simp; all_goals with_reducible rfl)
          (try simp only [Act.put, List.setIfInBounds_toArray, List.set_cons_zero, List.set_cons_succ])
          refine wpAnyH_take (i := 11) (v := ?_) (by rw [List.getElem?_toArray]; rfl) (by kernel_rfl) (by kernel_rfl) (by kernel_rfl) (by intro _ _ _ h; exact h) (Or.inl ⟨by rfl, ?_⟩) (by assumption) ?_
          rotate_left
          · (intro w hSw; (try dsimp only at hSw); go_simp; all_goals with_reducible rfl)
          (try simp only [Act.put, List.setIfInBounds_toArray, List.set_cons_zero, List.set_cons_succ])
          refine wpAnyH_take (i := 13) (v := ?_) (by rw [List.getElem?_toArray]; rfl) (by kernel_rfl) (by kernel_rfl) (by kernel_rfl) (by intro _ _ _ h; exact h) (Or.inl ⟨by rfl, ?_⟩) (by assumption) ?_
          rotate_left
          · (intro w hSw; (try dsimp only at hSw); go_simp; all_goals with_reducible rfl)
          (try simp only [Act.put, List.setIfInBounds_toArray, List.set_cons_zero, List.set_cons_succ])
          refine wpAnyH_ready (rs := [12]) (by kernel_rfl) (by simp) ?_
          refine AllReadyH.cons (by rw [List.getElem?_toArray]; rfl) (fun K hK => ?_) AllReadyH.nil
          go_simp
          refine (CC _ _ B).mono ?_; rintro e v ⟨rfl, hb⟩; clear x0 x1 x2 x3 x4 pc; (replace X := X.below hb); (replace RO := own_below RO hb); (replace B := B.trans (hb.mono B.size)); clear hb; obtain ⟨x0, x1, x2, x3, x4⟩ := id X; (have pc := PREV _ RO)
          (try go_wp2_with fail)
          refine hK.out _ _ ?_ (fun hHeld => ?_)
          · first | exact ⟨x1, x2, pc⟩ | (simp (maxDischargeDepth := 6) [go_sem, *]; done)
          clear hK K
          (try simp only [Act.put, List.setIfInBounds_toArray, List.set_cons_zero, List.set_cons_succ])
          refine wpAnyH_take (i := 14) (v := ?_) (by rw [List.getElem?_toArray]; rfl) (by kernel_rfl) (by kernel_rfl) (by kernel_rfl) (by intro _ _ _ h; exact h) (Or.inl ⟨by rfl, ?_⟩) (by assumption) ?_
          rotate_left
          · (intro w hSw; (try dsimp only at hSw); go_simp; all_goals with_reducible rfl)
          (try simp only [Act.put, List.setIfInBounds_toArray, List.set_cons_zero, List.set_cons_succ])
          (try simp only [d5])
          refine wpAnyH_take (i := 15) (v := ?_) (by rw [List.getElem?_toArray]; rfl) (by kernel_rfl) (by kernel_rfl) (by kernel_rfl) (by intro _ _ _ h; exact h) (Or.inl ⟨by rfl, ?_⟩) (by assumption) ?_
          rotate_left
          · (intro w hSw; (try dsimp only at hSw); go_simp; all_goals with_reducible rfl)
          (try simp only [Act.put, List.setIfInBounds_toArray, List.set_cons_zero, List.set_cons_succ])
          refine wpAnyH_take (i := 16) (v := ?_) (by rw [List.getElem?_toArray]; rfl) (by kernel_rfl) (by kernel_rfl) (by kernel_rfl) (by intro _ _ _ h; exact h) (Or.inl ⟨by rfl, ?_⟩) (by assumption) ?_
          rotate_left
          · (intro w hSw; (try dsimp only at hSw); go_simp; all_goals with_reducible rfl)
          (try simp only [Act.put, List.setIfInBounds_toArray, List.set_cons_zero, List.set_cons_succ])
          refine wpAnyH_take (i := 17) (v := ?_) (by rw [List.getElem?_toArray]; rfl) (by kernel_rfl) (by kernel_rfl) (by kernel_rfl) (by intro _ _ _ h; exact h) (Or.inl ⟨by rfl, ?_⟩) (by assumption) ?_
          rotate_left
          · (intro w hSw; (try dsimp only at hSw); go_simp; all_goals with_reducible rfl)
          (try simp only [Act.put, List.setIfInBounds_toArray, List.set_cons_zero, List.set_cons_succ])
          refine wpAnyH_take (i := 18) (v := ?_) (by rw [List.getElem?_toArray]; rfl) (by kernel_rfl) (by kernel_rfl) (by kernel_rfl) (by intro _ _ _ h; exact h) (Or.inl ⟨by rfl, ?_⟩) (by assumption) ?_
          rotate_left
          · (intro w hSw; (try dsimp only at hSw); go_simp; all_goals with_reducible rfl)
          (try simp only [Act.put, List.setIfInBounds_toArray, List.set_cons_zero, List.set_cons_succ])
          (try simp only [d6])
          (try simp only [d6n])
          refine wpAnyH_take (i := 19) (v := ?_) (by rw [List.getElem?_toArray]; rfl) (by kernel_rfl) (by kernel_rfl) (by kernel_rfl) (by intro _ _ _ h; exact h) (Or.inl ⟨by rfl, ?_⟩) (by assumption) ?_
          rotate_left
          · (intro w hSw; (try dsimp only at hSw); go_simp; all_goals with_reducible rfl)
          (try simp only [Act.put, List.setIfInBounds_toArray, List.set_cons_zero, List.set_cons_succ])
          refine wpAnyH_take (i := 20) (v := ?_) (by rw [List.getElem?_toArray]; rfl) (by kernel_rfl) (by kernel_rfl) (by kernel_rfl) (by intro _ _ _ h; exact h) (Or.inl ⟨by rfl, ?_⟩) (by assumption) ?_
          rotate_left
          · (intro w hSw; (try dsimp only at hSw); go_simp; all_goals with_reducible rfl)
          (try simp only [Act.put, List.setIfInBounds_toArray, List.set_cons_zero, List.set_cons_succ])
          refine wpAnyH_take (i := 21) (v := ?_) (by rw [List.getElem?_toArray]; rfl) (by kernel_rfl) (by kernel_rfl) (by kernel_rfl) (by intro _ _ _ h; exact h) (Or.inl ⟨by rfl, ?_⟩) (by assumption) ?_
          rotate_left
          · (intro w hSw; (try dsimp only at hSw); go_simp; all_goals with_reducible rfl)
          (try simp only [Act.put, List.setIfInBounds_toArray, List.set_cons_zero, List.set_cons_succ])
          refine wpAnyH_take (i := 22) (v := ?_) (by rw [List.getElem?_toArray]; rfl) (by kernel_rfl) (by kernel_rfl) (by kernel_rfl) (by intro _ _ _ h; exact h) (Or.inl ⟨by rfl, ?_⟩) (by assumption) ?_
          rotate_left
          · (intro w hSw; (try dsimp only at hSw); go_simp; all_goals with_reducible rfl)
          (try simp only [Act.put, List.setIfInBounds_toArray, List.set_cons_zero, List.set_cons_succ])
          refine wpAnyH_take (i := 23) (v := ?_) (by rw [List.getElem?_toArray]; rfl) (by kernel_rfl) (by kernel_rfl) (by kernel_rfl) (by intro _ _ _ h; exact h) (Or.inl ⟨by rfl, ?_⟩) (by assumption) ?_
          rotate_left
          · (intro w hSw; (try dsimp only at hSw); go_simp; all_goals with_reducible rfl)
          (try simp only [Act.put, List.setIfInBounds_toArray, List.set_cons_zero, List.set_cons_succ])
          refine wpAnyH_take (i := 24) (v := ?_) (by rw [List.getElem?_toArray]; rfl) (by kernel_rfl) (by kernel_rfl) (by kernel_rfl) (by intro _ _ _ h; exact h) (Or.inl ⟨by rfl, ?_⟩) (by assumption) ?_
          rotate_left
          · (intro w hSw; (try dsimp only at hSw); go_simp; all_goals with_reducible rfl)
          (try simp only [Act.put, List.setIfInBounds_toArray, List.set_cons_zero, List.set_cons_succ])
          refine wpAnyH_take (i := 25) (v := ?_) (by rw [List.getElem?_toArray]; rfl) (by kernel_rfl) (by kernel_rfl) (by kernel_rfl) (by intro _ _ _ h; exact h) (Or.inl ⟨by rfl, ?_⟩) (by assumption) ?_
          rotate_left
          · (intro w hSw; (try dsimp only at hSw); go_simp; all_goals with_reducible rfl)
          (try simp only [Act.put, List.setIfInBounds_toArray, List.set_cons_zero, List.set_cons_succ])
          refine wpAnyH_take (i := 26) (v := ?_) (by rw [List.getElem?_toArray]; rfl) (by kernel_rfl) (by kernel_rfl) (by kernel_rfl) (by intro _ _ _ h; exact h) (Or.inl ⟨by rfl, ?_⟩) (by assumption) ?_
          rotate_left
          · (intro w hSw; (try dsimp only at hSw); go_simp; all_goals with_reducible rfl)
          (try simp only [Act.put, List.setIfInBounds_toArray, List.set_cons_zero, List.set_cons_succ])
          refine wpAnyH_take (i := 27) (v := ?_) (by rw [List.getElem?_toArray]; rfl) (by kernel_rfl) (by kernel_rfl) (by kernel_rfl) (by intro _ _ _ h; exact h) (Or.inl ⟨by rfl, ?_⟩) (by assumption) ?_
          rotate_left
          · (intro w hSw; (try dsimp only at hSw); go_simp; all_goals with_reducible rfl)
          (try simp only [Act.put, List.setIfInBounds_toArray, List.set_cons_zero, List.set_cons_succ])
          refine wpAnyH_take (i := 28) (v := ?_) (by rw [List.getElem?_toArray]; rfl) (by kernel_rfl) (by kernel_rfl) (by kernel_rfl) (by intro _ _ _ h; exact h) (Or.inl ⟨by rfl, ?_⟩) (by assumption) ?_
          rotate_left
          · (intro w hSw; (try dsimp only at hSw); go_simp; all_goals with_reducible rfl)
          (try simp only [Act.put, List.setIfInBounds_toArray, List.set_cons_zero, List.set_cons_succ])
          refine wpAnyH_take (i := 29) (v := ?_) (by rw [List.getElem?_toArray]; rfl) (by kernel_rfl) (by kernel_rfl) (by kernel_rfl) (by intro _ _ _ h; exact h) (Or.inl ⟨by rfl, ?_⟩) (by assumption) ?_
          rotate_left
          · (intro w hSw; (try dsimp only at hSw); go_simp; all_goals with_reducible rfl)
          (try simp only [Act.put, List.setIfInBounds_toArray, List.set_cons_zero, List.set_cons_succ])
          (try simp only [d7])
          refine wpAnyH_take (i := 30) (v := ?_) (by rw [List.getElem?_toArray]; rfl) (by kernel_rfl) (by kernel_rfl) (by kernel_rfl) (by intro _ _ _ h; exact h) (Or.inl ⟨by rfl, ?_⟩) (by assumption) ?_
          rotate_left
          · (intro w hSw; (try dsimp only at hSw); go_simp; all_goals with_reducible rfl)
          (try simp only [Act.put, List.setIfInBounds_toArray, List.set_cons_zero, List.set_cons_succ])
          refine wpAnyH_take (i := 31) (v := ?_) (by rw [List.getElem?_toArray]; rfl) (by kernel_rfl) (by kernel_rfl) (by kernel_rfl) (by intro _ _ _ h; exact h) (Or.inl ⟨by rfl, ?_⟩) (by assumption) ?_
          rotate_left
          · (intro w hSw; (try dsimp only at hSw); go_simp; all_goals with_reducible rfl)
          (try simp only [Act.put, List.setIfInBounds_toArray, List.set_cons_zero, List.set_cons_succ])
          refine wpAnyH_done (by kernel_rfl) ?_ _
          go_wp2_with fail
          go_roundw
          case rel => exact ⟨i + 1, by omega, by go_num, RO, B⟩
          case measure => simp [intOf]; omega
      · have hli : ¬ (i : Int) < (R.length : Int) := by omega
        clear HR RO
        go_wp2_with fail
        refine (CMi _ B).mono ?_
        rintro e w4 ⟨rfl, hb⟩
        replace B := B.trans (hb.mono B.size)
        clear hb CMi
        have HLo : Hid (0 < mcI f m → cvI f m (mcR f m).1 = mcI f m) := HQ2.out
        generalize (mcR f m).1 = fl at *
        generalize (mcR f m).2 = fh at *
        have HR3 : Hid (rnL f m (mcI f m + 1) = []) := HQ3.out
        have CR3 := fun (v : World) (hb : Below w1.heap.size w1 v) => CR v (mcI f m + 1) hb
        rw [HR3.out] at CR3
        clear HR3 HQ2 HQ3 CR
        generalize mcI f m = mc at *
        have A := Below.al9 w4 (.cells #[.int .i64 fl, .int .i64 fh] 25)
        have X := Vb.new w4 fl fh 25
        replace B := B.trans (A.mono B.size)
        clear A
        go_upto_region 17 with fail
        generalize hj4 : w4.heap.size = j4 at *
        generalize w4.alloc (.cells #[.int .i64 fl, .int .i64 fh] 25) = v4 at *
        clear hj4
        go_wp2_with fail
        refine (CMs _ B).mono ?_
        rintro e w5 ⟨rfl, hb⟩
        replace X := X.below hb
        replace B := B.trans (hb.mono B.size)
        clear hb CMs
        have A := Below.al9 w5 (.cells #[.int .i64 fl, .int .i64 fh] 25)
        have hx5 := X.1
        replace X := X.below A
        replace B := B.trans (A.mono B.size)
        clear A
        go_upto_region 18 with fail
        generalize hj5 : w5.heap.size = j5 at *
        generalize w5.alloc (.cells #[.int .i64 fl, .int .i64 fh] 25) = v5 at *
        clear hj5
        obtain ⟨x0, x1, x2, x3, x4⟩ := id X
        by_cases hmc : 0 < mc
        · have e1 := HLo.out hmc
          go_wp2_with fail
          refine (CC _ _ B).mono ?_
          rintro e w6 ⟨rfl, hb⟩
          rw [e1]
          replace B := B.trans (hb.mono B.size)
          clear hb x0 x1 x2 x3 x4 e1
          go_wp2_with fail
          refine (CR3 _ B).mono ?_
          rintro e w7 ⟨v7, rfl, o7, hb⟩
          obtain ⟨a7, c7, rfl, -, -, -⟩ := own_src o7
          have B9 := B1.trans ((B.trans (hb.mono B.size)).mono hB1)
          go_wp2_with fail
          go_ret
          exact ⟨rfl, B9⟩
        · have hd9 : decide (0 < mc) = false := by simpa using hmc
          go_wp2_with fail
          refine (CR3 _ B).mono ?_
          rintro e w7 ⟨v7, rfl, o7, hb⟩
          obtain ⟨a7, c7, rfl, -, -, -⟩ := own_src o7
          have B9 := B1.trans ((B.trans (hb.mono B.size)).mono hB1)
          go_wp2_with fail
          go_ret
          exact ⟨rfl, B9⟩
end Go.Proofs.Ytaggohibfghnmaa
