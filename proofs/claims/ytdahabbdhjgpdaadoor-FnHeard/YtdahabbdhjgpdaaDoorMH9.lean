/- A row of what was heard, cloned; whether a frame is one of the plan. One put into a row of what was heard (slices.Insert). What is heard behind a frame: lists. putHeard in the program. -/
import Derived.Test.YtdahabbdhjgpdaaDoorMH5
import Derived.Test.YtdahabbdhjgpdaaDoorMH8
import Derived.Deep.RegionHeld3
import Derived.Deep.DeepCutAuto
import Derived.WalkKit
import Derived.WalkSpells
import Derived.WalkLawsBesides
import Derived.Deep.RegionHeld
import Derived.Lib.Overlaps
import Derived.Lib.AppendZerosOnto
import Derived.Laws.CopyRow
import Derived.Laws.Externs
import Derived.BigRegion
namespace Go.Proofs.YtdahabbdhjgpdaaDoor
open Go.RowKit
set_option linter.unusedVariables false
/- A row of what was heard, cloned. -/
set_option maxRecDepth 100000 in
set_option maxHeartbeats 4000000 in
theorem clone16_any (a : Option Addr) (n c : Nat) (M : Nat → VT) (w : World) (hL : n ≤ 4096) (ha : (a = none ∧ n = 0 ∧ c = 0) ∨ ∃ b off, a = some ⟨b, off, none⟩ ∧ (n = 0 ∨ Cs w b off (n * 2) (MFIval M))) :
    Calls Tryd.prog 47 #[.slice a n c] w fun e w' => ∃ v', e = .returned v' ∧ w'.ownsRow w.heap.size 80 2 v' n ((List.range (n * 2)).map (MFIval M)) ∧ Below w.heap.size w w' := by
  have qT : ∀ (w : World) (a : Option Addr) (n c n' c' : Nat), (binOp .eql 24 (.slice a n c) (.slice none n' c')).run Tryd.prog w = .ok (.bool a.isNone) w := fun w a n c n' c' => Lib.run_eql_slice_nil w _ _ a n c n' c' Tryd.underlying24
  rcases ha with ⟨rfl, rfl, rfl⟩ | ⟨b, off, rfl, hC⟩
  · go_enter Tryd.func47, Tryd.ntmps47
    go_wp2_with fail
    go_ret
    exact ⟨_, rfl, World.ownsRow_nil _ _ _ _, Below.refl _ _⟩
  · have A := Below.nw w (.cells #[] 80)
    have OW := made_heard w
    have hsz : w.heap.size ≤ (w.alloc (.cells #[] 80)).heap.size := A.size
    have HA : Hid ((some (⟨b, off, none⟩ : Addr) = none ∧ n = 0 ∧ c = 0) ∨ ∃ b' off', some (⟨b, off, none⟩ : Addr) = some ⟨b', off', none⟩ ∧ (n = 0 ∨ Cs (w.alloc (.cells #[] 80)) b' off' (n * 2) (MFIval M))) := .inr ⟨b, off, rfl, hC.imp id fun h => h.below A h.1⟩
    clear hC
    go_enter Tryd.func47, Tryd.ntmps47
    go_wp2_with (at_builtin; refine copy_heards rfl _ _ rfl w.heap.size M _ rfl OW _ n c rfl HA.out hL hsz ?_; intro v' w9 O9 hg9; (have B9 := A.trans (grown_belowK OW hg9 hsz)))
    go_ret
    exact ⟨_, rfl, O9, B9⟩
/- Whether a frame is one of the plan. -/
set_option maxRecDepth 100000 in
set_option maxHeartbeats 8000000 in
theorem takes_any (s g : Int) (p : Option Addr) (m d : Nat) (PM : Nat → SlT) (k fr tu no lo hi sl : Int) (bo : ByteArray) (w : World) (hpm : m ≤ maxLen) (hp : SrcC w p (m * 2) (MFSlot PM)) (hbo : bo.size ≤ 1048576) (hpl : plB s g PM m = true) :
    Calls Tryd.prog 46 #[.agg #[.int .i64 s, .int .i64 g, .slice p m d], .agg #[.int .i64 k, .int .i64 fr, .int .i64 tu, .int .i64 no, .int .i64 lo, .int .i64 hi, .int .i64 sl, .string bo]] w fun e w' => e = .returned (.bool (hmB PM m k fr tu no lo hi sl bo)) ∧ Below w.heap.size w w' := by
  have A0 := Below.nw w (.cells #[.int .i64 s, .int .i64 g, .slice p m d] 27)
  have A1 := Below.nw (w.alloc (.cells #[.int .i64 s, .int .i64 g, .slice p m d] 27)) (.cells #[.int .i64 k, .int .i64 fr, .int .i64 tu, .int .i64 no, .int .i64 lo, .int .i64 hi, .int .i64 sl, .string bo] 31)
  have N := (Tx3.new w (.int .i64 s) (.int .i64 g) (.slice p m d) 27).below A1
  have P := Box8.new (w.alloc (.cells #[.int .i64 s, .int .i64 g, .slice p m d] 27)) k fr tu no lo hi sl bo 31
  have B := A0.trans (A1.mono A0.size)
  simp only [World.size_alloc] at P
  clear A0 A1
  have HP : Hid (SrcC w p (m * 2) (MFSlot PM)) := hp
  have CM := fun w' => implMsgOk_any k fr tu no lo hi sl bo w' hbo
  have CH := fun w' h => planHas_any s g p m d PM sl w' hpm h
  have hm12 := (plB_t hpl).2.2.1
  clear hp hbo hpm
  cases h4 : msgB k fr tu no lo hi sl bo
  · have e0 : hmB PM m k fr tu no lo hi sl bo = false := by unfold hmB; rw [h4]; rfl
    rw [e0]
    clear e0 CH HP hpl
    go_enter Tryd.func46, Tryd.ntmps46
    go_upto_region 1 with fail
    generalize (w.alloc (.cells #[.int .i64 s, .int .i64 g, .slice p m d] 27)).alloc (.cells #[.int .i64 k, .int .i64 fr, .int .i64 tu, .int .i64 no, .int .i64 lo, .int .i64 hi, .int .i64 sl, .string bo] 31) = v at *
    have SK : Hid (∀ w', Below v.heap.size v w' → ((fun w' => w'.cell? ⟨w.heap.size, 0, none⟩ = some (.int .i64 s) ∧ w'.cell? ⟨w.heap.size, 1, none⟩ = some (.int .i64 g) ∧ w'.cell? ⟨w.heap.size, 2, none⟩ = some (.slice p m d) ∧ w'.cell? ⟨w.heap.size + 1, 0, none⟩ = some (.int .i64 k) ∧ w'.cell? ⟨w.heap.size + 1, 1, none⟩ = some (.int .i64 fr) ∧ w'.cell? ⟨w.heap.size + 1, 2, none⟩ = some (.int .i64 tu) ∧ w'.cell? ⟨w.heap.size + 1, 3, none⟩ = some (.int .i64 no) ∧ w'.cell? ⟨w.heap.size + 1, 4, none⟩ = some (.int .i64 lo) ∧ w'.cell? ⟨w.heap.size + 1, 5, none⟩ = some (.int .i64 hi) ∧ w'.cell? ⟨w.heap.size + 1, 6, none⟩ = some (.int .i64 sl) ∧ w'.cell? ⟨w.heap.size + 1, 7, none⟩ = some (.string bo))) w') := fun w' hw => ⟨(N.below hw).2.1, (N.below hw).2.2.1, (N.below hw).2.2.2.1, (P.below hw).2.1, (P.below hw).2.2.1, (P.below hw).2.2.2.1, (P.below hw).2.2.2.2.1, (P.below hw).2.2.2.2.2.1, (P.below hw).2.2.2.2.2.2.1, (P.below hw).2.2.2.2.2.2.2.1, (P.below hw).2.2.2.2.2.2.2.2⟩
    refine wp_region_held_drew (S := (fun w' => w'.cell? ⟨w.heap.size, 0, none⟩ = some (.int .i64 s) ∧ w'.cell? ⟨w.heap.size, 1, none⟩ = some (.int .i64 g) ∧ w'.cell? ⟨w.heap.size, 2, none⟩ = some (.slice p m d) ∧ w'.cell? ⟨w.heap.size + 1, 0, none⟩ = some (.int .i64 k) ∧ w'.cell? ⟨w.heap.size + 1, 1, none⟩ = some (.int .i64 fr) ∧ w'.cell? ⟨w.heap.size + 1, 2, none⟩ = some (.int .i64 tu) ∧ w'.cell? ⟨w.heap.size + 1, 3, none⟩ = some (.int .i64 no) ∧ w'.cell? ⟨w.heap.size + 1, 4, none⟩ = some (.int .i64 lo) ∧ w'.cell? ⟨w.heap.size + 1, 5, none⟩ = some (.int .i64 hi) ∧ w'.cell? ⟨w.heap.size + 1, 6, none⟩ = some (.int .i64 sl) ∧ w'.cell? ⟨w.heap.size + 1, 7, none⟩ = some (.string bo))) (by kernel_rfl) ?_ (fun hHeld => ?_)
    · first | exact SK.out _ XB | exact SK.out _ (Below.drew (Below.refl _ _))
    have XB : Below v.heap.size v v.drew := Below.drew (Below.refl _ _)
    generalize v.drew = vx at *
    refine wpAnyH_take (i := 0) (v := ?_) (by rw [List.getElem?_toArray]; rfl) (by kernel_rfl) (by kernel_rfl) (by kernel_rfl) (by intro _ _ _ h; exact h) (Or.inl ⟨by rfl, ?_⟩) (by assumption) ?_
    rotate_left
    · (intro w hSw; (try dsimp only at hSw); go_simp; all_goals with_reducible rfl)
    (try simp only [Act.put, List.setIfInBounds_toArray, List.set_cons_zero, List.set_cons_succ])
    refine wpAnyH_ready (rs := [1]) (by kernel_rfl) (by simp) ?_
    refine AllReadyH.cons (by rw [List.getElem?_toArray]; rfl) (fun K hK => ?_) AllReadyH.nil
    go_simp
    refine (CM vx).mono ?_; rintro ee vx ⟨rfl, hbl⟩; rw [h4]; (replace XB := XB.trans (hbl.mono XB.size)); (clear hbl)
    (try go_wp2_with fail)
    refine hK.out _ _ ?_ (fun hHeld => ?_)
    · first | exact SK.out _ XB | exact SK.out _ (Below.drew (Below.refl _ _))
    clear hK K
    (try simp only [Act.put, List.setIfInBounds_toArray, List.set_cons_zero, List.set_cons_succ])
    refine wpAnyH_take (i := 2) (v := ?_) (by rw [List.getElem?_toArray]; rfl) (by kernel_rfl) (by kernel_rfl) (by kernel_rfl) (by intro _ _ _ h; exact h) (Or.inl ⟨by rfl, ?_⟩) (by assumption) ?_
    rotate_left
    · (intro w hSw; (try dsimp only at hSw); go_simp; all_goals with_reducible rfl)
    (try simp only [Act.put, List.setIfInBounds_toArray, List.set_cons_zero, List.set_cons_succ])
    refine wpAnyH_take (i := 3) (v := undef) (by rw [List.getElem?_toArray]; rfl) (by kernel_rfl) (by kernel_rfl) (by kernel_rfl) (by intro _ _ _ h; exact h) (Or.inr ⟨by rfl, rfl⟩) (by assumption) ?_
    (try simp only [Act.put, List.setIfInBounds_toArray, List.set_cons_zero, List.set_cons_succ])
    refine wpAnyH_take (i := 4) (v := undef) (by rw [List.getElem?_toArray]; rfl) (by kernel_rfl) (by kernel_rfl) (by kernel_rfl) (by intro _ _ _ h; exact h) (Or.inr ⟨by rfl, rfl⟩) (by assumption) ?_
    (try simp only [Act.put, List.setIfInBounds_toArray, List.set_cons_zero, List.set_cons_succ])
    refine wpAnyH_take (i := 5) (v := undef) (by rw [List.getElem?_toArray]; rfl) (by kernel_rfl) (by kernel_rfl) (by kernel_rfl) (by intro _ _ _ h; exact h) (Or.inr ⟨by rfl, rfl⟩) (by assumption) ?_
    (try simp only [Act.put, List.setIfInBounds_toArray, List.set_cons_zero, List.set_cons_succ])
    refine wpAnyH_take (i := 6) (v := ?_) (by rw [List.getElem?_toArray]; rfl) (by kernel_rfl) (by kernel_rfl) (by kernel_rfl) (by intro _ _ _ h; exact h) (Or.inl ⟨by rfl, ?_⟩) (by assumption) ?_
    rotate_left
    · (intro w hSw; (try dsimp only at hSw); go_simp; all_goals with_reducible rfl)
    (try simp only [Act.put, List.setIfInBounds_toArray, List.set_cons_zero, List.set_cons_succ])
    refine wpAnyH_take (i := 7) (v := ?_) (by rw [List.getElem?_toArray]; rfl) (by kernel_rfl) (by kernel_rfl) (by kernel_rfl) (by intro _ _ _ h; exact h) (Or.inl ⟨by rfl, ?_⟩) (by assumption) ?_
    rotate_left
    · (intro w hSw; (try dsimp only at hSw); go_simp; all_goals with_reducible rfl)
    (try simp only [Act.put, List.setIfInBounds_toArray, List.set_cons_zero, List.set_cons_succ])
    refine wpAnyH_take (i := 8) (v := undef) (by rw [List.getElem?_toArray]; rfl) (by kernel_rfl) (by kernel_rfl) (by kernel_rfl) (by intro _ _ _ h; exact h) (Or.inr ⟨by rfl, rfl⟩) (by assumption) ?_
    (try simp only [Act.put, List.setIfInBounds_toArray, List.set_cons_zero, List.set_cons_succ])
    refine wpAnyH_take (i := 9) (v := undef) (by rw [List.getElem?_toArray]; rfl) (by kernel_rfl) (by kernel_rfl) (by kernel_rfl) (by intro _ _ _ h; exact h) (Or.inr ⟨by rfl, rfl⟩) (by assumption) ?_
    (try simp only [Act.put, List.setIfInBounds_toArray, List.set_cons_zero, List.set_cons_succ])
    refine wpAnyH_take (i := 10) (v := undef) (by rw [List.getElem?_toArray]; rfl) (by kernel_rfl) (by kernel_rfl) (by kernel_rfl) (by intro _ _ _ h; exact h) (Or.inr ⟨by rfl, rfl⟩) (by assumption) ?_
    (try simp only [Act.put, List.setIfInBounds_toArray, List.set_cons_zero, List.set_cons_succ])
    refine wpAnyH_take (i := 11) (v := undef) (by rw [List.getElem?_toArray]; rfl) (by kernel_rfl) (by kernel_rfl) (by kernel_rfl) (by intro _ _ _ h; exact h) (Or.inr ⟨by rfl, rfl⟩) (by assumption) ?_
    (try simp only [Act.put, List.setIfInBounds_toArray, List.set_cons_zero, List.set_cons_succ])
    refine wpAnyH_take (i := 12) (v := ?_) (by rw [List.getElem?_toArray]; rfl) (by kernel_rfl) (by kernel_rfl) (by kernel_rfl) (by intro _ _ _ h; exact h) (Or.inl ⟨by rfl, ?_⟩) (by assumption) ?_
    rotate_left
    · (intro w hSw; (try dsimp only at hSw); go_simp; all_goals with_reducible rfl)
    (try simp only [Act.put, List.setIfInBounds_toArray, List.set_cons_zero, List.set_cons_succ])
    refine wpAnyH_take (i := 13) (v := ?_) (by rw [List.getElem?_toArray]; rfl) (by kernel_rfl) (by kernel_rfl) (by kernel_rfl) (by intro _ _ _ h; exact h) (Or.inl ⟨by rfl, ?_⟩) (by assumption) ?_
    rotate_left
    · (intro w hSw; (try dsimp only at hSw); go_simp; all_goals with_reducible rfl)
    (try simp only [Act.put, List.setIfInBounds_toArray, List.set_cons_zero, List.set_cons_succ])
    refine wpAnyH_take (i := 14) (v := undef) (by rw [List.getElem?_toArray]; rfl) (by kernel_rfl) (by kernel_rfl) (by kernel_rfl) (by intro _ _ _ h; exact h) (Or.inr ⟨by rfl, rfl⟩) (by assumption) ?_
    (try simp only [Act.put, List.setIfInBounds_toArray, List.set_cons_zero, List.set_cons_succ])
    refine wpAnyH_take (i := 15) (v := undef) (by rw [List.getElem?_toArray]; rfl) (by kernel_rfl) (by kernel_rfl) (by kernel_rfl) (by intro _ _ _ h; exact h) (Or.inr ⟨by rfl, rfl⟩) (by assumption) ?_
    (try simp only [Act.put, List.setIfInBounds_toArray, List.set_cons_zero, List.set_cons_succ])
    refine wpAnyH_take (i := 16) (v := undef) (by rw [List.getElem?_toArray]; rfl) (by kernel_rfl) (by kernel_rfl) (by kernel_rfl) (by intro _ _ _ h; exact h) (Or.inr ⟨by rfl, rfl⟩) (by assumption) ?_
    (try simp only [Act.put, List.setIfInBounds_toArray, List.set_cons_zero, List.set_cons_succ])
    refine wpAnyH_take (i := 17) (v := undef) (by rw [List.getElem?_toArray]; rfl) (by kernel_rfl) (by kernel_rfl) (by kernel_rfl) (by intro _ _ _ h; exact h) (Or.inr ⟨by rfl, rfl⟩) (by assumption) ?_
    (try simp only [Act.put, List.setIfInBounds_toArray, List.set_cons_zero, List.set_cons_succ])
    refine wpAnyH_take (i := 18) (v := undef) (by rw [List.getElem?_toArray]; rfl) (by kernel_rfl) (by kernel_rfl) (by kernel_rfl) (by intro _ _ _ h; exact h) (Or.inr ⟨by rfl, rfl⟩) (by assumption) ?_
    (try simp only [Act.put, List.setIfInBounds_toArray, List.set_cons_zero, List.set_cons_succ])
    refine wpAnyH_take (i := 19) (v := undef) (by rw [List.getElem?_toArray]; rfl) (by kernel_rfl) (by kernel_rfl) (by kernel_rfl) (by intro _ _ _ h; exact h) (Or.inr ⟨by rfl, rfl⟩) (by assumption) ?_
    (try simp only [Act.put, List.setIfInBounds_toArray, List.set_cons_zero, List.set_cons_succ])
    refine wpAnyH_take (i := 20) (v := undef) (by rw [List.getElem?_toArray]; rfl) (by kernel_rfl) (by kernel_rfl) (by kernel_rfl) (by intro _ _ _ h; exact h) (Or.inr ⟨by rfl, rfl⟩) (by assumption) ?_
    (try simp only [Act.put, List.setIfInBounds_toArray, List.set_cons_zero, List.set_cons_succ])
    refine wpAnyH_take (i := 21) (v := undef) (by rw [List.getElem?_toArray]; rfl) (by kernel_rfl) (by kernel_rfl) (by kernel_rfl) (by intro _ _ _ h; exact h) (Or.inr ⟨by rfl, rfl⟩) (by assumption) ?_
    (try simp only [Act.put, List.setIfInBounds_toArray, List.set_cons_zero, List.set_cons_succ])
    refine wpAnyH_take (i := 22) (v := undef) (by rw [List.getElem?_toArray]; rfl) (by kernel_rfl) (by kernel_rfl) (by kernel_rfl) (by intro _ _ _ h; exact h) (Or.inr ⟨by rfl, rfl⟩) (by assumption) ?_
    (try simp only [Act.put, List.setIfInBounds_toArray, List.set_cons_zero, List.set_cons_succ])
    refine wpAnyH_take (i := 23) (v := undef) (by rw [List.getElem?_toArray]; rfl) (by kernel_rfl) (by kernel_rfl) (by kernel_rfl) (by intro _ _ _ h; exact h) (Or.inr ⟨by rfl, rfl⟩) (by assumption) ?_
    (try simp only [Act.put, List.setIfInBounds_toArray, List.set_cons_zero, List.set_cons_succ])
    refine wpAnyH_take (i := 24) (v := ?_) (by rw [List.getElem?_toArray]; rfl) (by kernel_rfl) (by kernel_rfl) (by kernel_rfl) (by intro _ _ _ h; exact h) (Or.inl ⟨by rfl, ?_⟩) (by assumption) ?_
    rotate_left
    · (intro w hSw; (try dsimp only at hSw); go_simp; all_goals with_reducible rfl)
    (try simp only [Act.put, List.setIfInBounds_toArray, List.set_cons_zero, List.set_cons_succ])
    refine wpAnyH_take (i := 25) (v := ?_) (by rw [List.getElem?_toArray]; rfl) (by kernel_rfl) (by kernel_rfl) (by kernel_rfl) (by intro _ _ _ h; exact h) (Or.inl ⟨by rfl, ?_⟩) (by assumption) ?_
    rotate_left
    · (intro w hSw; (try dsimp only at hSw); go_simp; all_goals with_reducible rfl)
    (try simp only [Act.put, List.setIfInBounds_toArray, List.set_cons_zero, List.set_cons_succ])
    refine wpAnyH_done (by kernel_rfl) ?_ _
    replace B := B.trans (XB.mono B.size)
    clear SK XB N P
    (try go_wp2_with fail)
    first | (go_ret; exact ⟨rfl, B⟩) | exact bodyPost_ret (v := (.bool false)) (by simp (maxDischargeDepth := 6) [results, Tryd.results46, go_sem, *]) rfl ⟨rfl, B⟩
  by_cases k3 : k = 3
  · subst k3
    have hsl : 0 ≤ sl ∧ sl ≤ 15 := by
      unfold msgB at h4
      simp only [if_neg (show ¬ (3 : Int) = 1 by decide), if_neg (show ¬ (3 : Int) = 2 by decide), if_pos, Bool.and_eq_true, decide_eq_true_eq] at h4
      exact h4.1.1.1.1.1.2
    cases h5 : sfB s g PM m sl
    · have e0 : hmB PM m 3 fr tu no lo hi sl bo = false := by
        unfold sfB ixB at h5
        rw [hpl, Bool.true_and] at h5
        have h5' : ¬ sl < (m : Int) := by simp at h5; omega
        unfold hmB
        rw [h4, decide_eq_false h5']; rfl
      rw [e0]
      clear e0 hpl hsl
      go_enter Tryd.func46, Tryd.ntmps46
      go_upto_region 1 with fail
      generalize (w.alloc (.cells #[.int .i64 s, .int .i64 g, .slice p m d] 27)).alloc (.cells #[.int .i64 3, .int .i64 fr, .int .i64 tu, .int .i64 no, .int .i64 lo, .int .i64 hi, .int .i64 sl, .string bo] 31) = v at *
      have SK : Hid (∀ w', Below v.heap.size v w' → ((fun w' => w'.cell? ⟨w.heap.size, 0, none⟩ = some (.int .i64 s) ∧ w'.cell? ⟨w.heap.size, 1, none⟩ = some (.int .i64 g) ∧ w'.cell? ⟨w.heap.size, 2, none⟩ = some (.slice p m d) ∧ w'.cell? ⟨w.heap.size + 1, 0, none⟩ = some (.int .i64 3) ∧ w'.cell? ⟨w.heap.size + 1, 1, none⟩ = some (.int .i64 fr) ∧ w'.cell? ⟨w.heap.size + 1, 2, none⟩ = some (.int .i64 tu) ∧ w'.cell? ⟨w.heap.size + 1, 3, none⟩ = some (.int .i64 no) ∧ w'.cell? ⟨w.heap.size + 1, 4, none⟩ = some (.int .i64 lo) ∧ w'.cell? ⟨w.heap.size + 1, 5, none⟩ = some (.int .i64 hi) ∧ w'.cell? ⟨w.heap.size + 1, 6, none⟩ = some (.int .i64 sl) ∧ w'.cell? ⟨w.heap.size + 1, 7, none⟩ = some (.string bo))) w') := fun w' hw => ⟨(N.below hw).2.1, (N.below hw).2.2.1, (N.below hw).2.2.2.1, (P.below hw).2.1, (P.below hw).2.2.1, (P.below hw).2.2.2.1, (P.below hw).2.2.2.2.1, (P.below hw).2.2.2.2.2.1, (P.below hw).2.2.2.2.2.2.1, (P.below hw).2.2.2.2.2.2.2.1, (P.below hw).2.2.2.2.2.2.2.2⟩
      refine wp_region_held_drew (S := (fun w' => w'.cell? ⟨w.heap.size, 0, none⟩ = some (.int .i64 s) ∧ w'.cell? ⟨w.heap.size, 1, none⟩ = some (.int .i64 g) ∧ w'.cell? ⟨w.heap.size, 2, none⟩ = some (.slice p m d) ∧ w'.cell? ⟨w.heap.size + 1, 0, none⟩ = some (.int .i64 3) ∧ w'.cell? ⟨w.heap.size + 1, 1, none⟩ = some (.int .i64 fr) ∧ w'.cell? ⟨w.heap.size + 1, 2, none⟩ = some (.int .i64 tu) ∧ w'.cell? ⟨w.heap.size + 1, 3, none⟩ = some (.int .i64 no) ∧ w'.cell? ⟨w.heap.size + 1, 4, none⟩ = some (.int .i64 lo) ∧ w'.cell? ⟨w.heap.size + 1, 5, none⟩ = some (.int .i64 hi) ∧ w'.cell? ⟨w.heap.size + 1, 6, none⟩ = some (.int .i64 sl) ∧ w'.cell? ⟨w.heap.size + 1, 7, none⟩ = some (.string bo))) (by kernel_rfl) ?_ (fun hHeld => ?_)
      · first | exact SK.out _ XB | exact SK.out _ (Below.drew (Below.refl _ _))
      have XB : Below v.heap.size v v.drew := Below.drew (Below.refl _ _)
      generalize v.drew = vx at *
      refine wpAnyH_take (i := 0) (v := ?_) (by rw [List.getElem?_toArray]; rfl) (by kernel_rfl) (by kernel_rfl) (by kernel_rfl) (by intro _ _ _ h; exact h) (Or.inl ⟨by rfl, ?_⟩) (by assumption) ?_
      rotate_left
      · (intro w hSw; (try dsimp only at hSw); go_simp; all_goals with_reducible rfl)
      (try simp only [Act.put, List.setIfInBounds_toArray, List.set_cons_zero, List.set_cons_succ])
      refine wpAnyH_ready (rs := [1]) (by kernel_rfl) (by simp) ?_
      refine AllReadyH.cons (by rw [List.getElem?_toArray]; rfl) (fun K hK => ?_) AllReadyH.nil
      go_simp
      refine (CM vx).mono ?_; rintro ee vx ⟨rfl, hbl⟩; rw [h4]; (replace XB := XB.trans (hbl.mono XB.size)); (clear hbl)
      (try go_wp2_with fail)
      refine hK.out _ _ ?_ (fun hHeld => ?_)
      · first | exact SK.out _ XB | exact SK.out _ (Below.drew (Below.refl _ _))
      clear hK K
      (try simp only [Act.put, List.setIfInBounds_toArray, List.set_cons_zero, List.set_cons_succ])
      refine wpAnyH_take (i := 2) (v := ?_) (by rw [List.getElem?_toArray]; rfl) (by kernel_rfl) (by kernel_rfl) (by kernel_rfl) (by intro _ _ _ h; exact h) (Or.inl ⟨by rfl, ?_⟩) (by assumption) ?_
      rotate_left
      · (intro w hSw; (try dsimp only at hSw); go_simp; all_goals with_reducible rfl)
      (try simp only [Act.put, List.setIfInBounds_toArray, List.set_cons_zero, List.set_cons_succ])
      refine wpAnyH_take (i := 3) (v := ?_) (by rw [List.getElem?_toArray]; rfl) (by kernel_rfl) (by kernel_rfl) (by kernel_rfl) (by intro _ _ _ h; exact h) (Or.inl ⟨by rfl, ?_⟩) (by assumption) ?_
      rotate_left
      · (intro w hSw; (try dsimp only at hSw); go_simp; all_goals with_reducible rfl)
      (try simp only [Act.put, List.setIfInBounds_toArray, List.set_cons_zero, List.set_cons_succ])
      refine wpAnyH_take (i := 4) (v := ?_) (by rw [List.getElem?_toArray]; rfl) (by kernel_rfl) (by kernel_rfl) (by kernel_rfl) (by intro _ _ _ h; exact h) (Or.inl ⟨by rfl, ?_⟩) (by assumption) ?_
      rotate_left
      · (intro w hSw; (try dsimp only at hSw); go_simp; all_goals with_reducible rfl)
      (try simp only [Act.put, List.setIfInBounds_toArray, List.set_cons_zero, List.set_cons_succ])
      refine wpAnyH_take (i := 5) (v := ?_) (by rw [List.getElem?_toArray]; rfl) (by kernel_rfl) (by kernel_rfl) (by kernel_rfl) (by intro _ _ _ h; exact h) (Or.inl ⟨by rfl, ?_⟩) (by assumption) ?_
      rotate_left
      · (intro w hSw; (try dsimp only at hSw); go_simp; all_goals with_reducible rfl)
      (try simp only [Act.put, List.setIfInBounds_toArray, List.set_cons_zero, List.set_cons_succ])
      refine wpAnyH_take (i := 6) (v := ?_) (by rw [List.getElem?_toArray]; rfl) (by kernel_rfl) (by kernel_rfl) (by kernel_rfl) (by intro _ _ _ h; exact h) (Or.inl ⟨by rfl, ?_⟩) (by assumption) ?_
      rotate_left
      · (intro w hSw; (try dsimp only at hSw); go_simp; all_goals with_reducible rfl)
      (try simp only [Act.put, List.setIfInBounds_toArray, List.set_cons_zero, List.set_cons_succ])
      refine wpAnyH_take (i := 7) (v := ?_) (by rw [List.getElem?_toArray]; rfl) (by kernel_rfl) (by kernel_rfl) (by kernel_rfl) (by intro _ _ _ h; exact h) (Or.inl ⟨by rfl, ?_⟩) (by assumption) ?_
      rotate_left
      · (intro w hSw; (try dsimp only at hSw); go_simp; all_goals with_reducible rfl)
      (try simp only [Act.put, List.setIfInBounds_toArray, List.set_cons_zero, List.set_cons_succ])
      refine wpAnyH_take (i := 8) (v := ?_) (by rw [List.getElem?_toArray]; rfl) (by kernel_rfl) (by kernel_rfl) (by kernel_rfl) (by intro _ _ _ h; exact h) (Or.inl ⟨by rfl, ?_⟩) (by assumption) ?_
      rotate_left
      · (intro w hSw; (try dsimp only at hSw); go_simp; all_goals with_reducible rfl)
      (try simp only [Act.put, List.setIfInBounds_toArray, List.set_cons_zero, List.set_cons_succ])
      refine wpAnyH_take (i := 9) (v := ?_) (by rw [List.getElem?_toArray]; rfl) (by kernel_rfl) (by kernel_rfl) (by kernel_rfl) (by intro _ _ _ h; exact h) (Or.inl ⟨by rfl, ?_⟩) (by assumption) ?_
      rotate_left
      · (intro w hSw; (try dsimp only at hSw); go_simp; all_goals with_reducible rfl)
      (try simp only [Act.put, List.setIfInBounds_toArray, List.set_cons_zero, List.set_cons_succ])
      refine wpAnyH_take (i := 10) (v := ?_) (by rw [List.getElem?_toArray]; rfl) (by kernel_rfl) (by kernel_rfl) (by kernel_rfl) (by intro _ _ _ h; exact h) (Or.inl ⟨by rfl, ?_⟩) (by assumption) ?_
      rotate_left
      · (intro w hSw; (try dsimp only at hSw); go_simp; all_goals with_reducible rfl)
      (try simp only [Act.put, List.setIfInBounds_toArray, List.set_cons_zero, List.set_cons_succ])
      refine wpAnyH_ready (rs := [11]) (by kernel_rfl) (by simp) ?_
      refine AllReadyH.cons (by rw [List.getElem?_toArray]; rfl) (fun K hK => ?_) AllReadyH.nil
      go_simp
      refine (CH vx (HP.out.below (B.trans (XB.mono B.size)))).mono ?_; rintro ee vx ⟨rfl, hbl⟩; rw [h5]; (replace XB := XB.trans (hbl.mono XB.size)); (clear hbl)
      (try go_wp2_with fail)
      refine hK.out _ _ ?_ (fun hHeld => ?_)
      · first | exact SK.out _ XB | exact SK.out _ (Below.drew (Below.refl _ _))
      clear hK K
      (try simp only [Act.put, List.setIfInBounds_toArray, List.set_cons_zero, List.set_cons_succ])
      refine wpAnyH_take (i := 12) (v := ?_) (by rw [List.getElem?_toArray]; rfl) (by kernel_rfl) (by kernel_rfl) (by kernel_rfl) (by intro _ _ _ h; exact h) (Or.inl ⟨by rfl, ?_⟩) (by assumption) ?_
      rotate_left
      · (intro w hSw; (try dsimp only at hSw); go_simp; all_goals with_reducible rfl)
      (try simp only [Act.put, List.setIfInBounds_toArray, List.set_cons_zero, List.set_cons_succ])
      refine wpAnyH_take (i := 13) (v := ?_) (by rw [List.getElem?_toArray]; rfl) (by kernel_rfl) (by kernel_rfl) (by kernel_rfl) (by intro _ _ _ h; exact h) (Or.inl ⟨by rfl, ?_⟩) (by assumption) ?_
      rotate_left
      · (intro w hSw; (try dsimp only at hSw); go_simp; all_goals with_reducible rfl)
      (try simp only [Act.put, List.setIfInBounds_toArray, List.set_cons_zero, List.set_cons_succ])
      refine wpAnyH_take (i := 14) (v := undef) (by rw [List.getElem?_toArray]; rfl) (by kernel_rfl) (by kernel_rfl) (by kernel_rfl) (by intro _ _ _ h; exact h) (Or.inr ⟨by rfl, rfl⟩) (by assumption) ?_
      (try simp only [Act.put, List.setIfInBounds_toArray, List.set_cons_zero, List.set_cons_succ])
      refine wpAnyH_take (i := 15) (v := undef) (by rw [List.getElem?_toArray]; rfl) (by kernel_rfl) (by kernel_rfl) (by kernel_rfl) (by intro _ _ _ h; exact h) (Or.inr ⟨by rfl, rfl⟩) (by assumption) ?_
      (try simp only [Act.put, List.setIfInBounds_toArray, List.set_cons_zero, List.set_cons_succ])
      refine wpAnyH_take (i := 16) (v := undef) (by rw [List.getElem?_toArray]; rfl) (by kernel_rfl) (by kernel_rfl) (by kernel_rfl) (by intro _ _ _ h; exact h) (Or.inr ⟨by rfl, rfl⟩) (by assumption) ?_
      (try simp only [Act.put, List.setIfInBounds_toArray, List.set_cons_zero, List.set_cons_succ])
      refine wpAnyH_take (i := 17) (v := undef) (by rw [List.getElem?_toArray]; rfl) (by kernel_rfl) (by kernel_rfl) (by kernel_rfl) (by intro _ _ _ h; exact h) (Or.inr ⟨by rfl, rfl⟩) (by assumption) ?_
      (try simp only [Act.put, List.setIfInBounds_toArray, List.set_cons_zero, List.set_cons_succ])
      refine wpAnyH_take (i := 18) (v := undef) (by rw [List.getElem?_toArray]; rfl) (by kernel_rfl) (by kernel_rfl) (by kernel_rfl) (by intro _ _ _ h; exact h) (Or.inr ⟨by rfl, rfl⟩) (by assumption) ?_
      (try simp only [Act.put, List.setIfInBounds_toArray, List.set_cons_zero, List.set_cons_succ])
      refine wpAnyH_take (i := 19) (v := undef) (by rw [List.getElem?_toArray]; rfl) (by kernel_rfl) (by kernel_rfl) (by kernel_rfl) (by intro _ _ _ h; exact h) (Or.inr ⟨by rfl, rfl⟩) (by assumption) ?_
      (try simp only [Act.put, List.setIfInBounds_toArray, List.set_cons_zero, List.set_cons_succ])
      refine wpAnyH_take (i := 20) (v := undef) (by rw [List.getElem?_toArray]; rfl) (by kernel_rfl) (by kernel_rfl) (by kernel_rfl) (by intro _ _ _ h; exact h) (Or.inr ⟨by rfl, rfl⟩) (by assumption) ?_
      (try simp only [Act.put, List.setIfInBounds_toArray, List.set_cons_zero, List.set_cons_succ])
      refine wpAnyH_take (i := 21) (v := undef) (by rw [List.getElem?_toArray]; rfl) (by kernel_rfl) (by kernel_rfl) (by kernel_rfl) (by intro _ _ _ h; exact h) (Or.inr ⟨by rfl, rfl⟩) (by assumption) ?_
      (try simp only [Act.put, List.setIfInBounds_toArray, List.set_cons_zero, List.set_cons_succ])
      refine wpAnyH_take (i := 22) (v := undef) (by rw [List.getElem?_toArray]; rfl) (by kernel_rfl) (by kernel_rfl) (by kernel_rfl) (by intro _ _ _ h; exact h) (Or.inr ⟨by rfl, rfl⟩) (by assumption) ?_
      (try simp only [Act.put, List.setIfInBounds_toArray, List.set_cons_zero, List.set_cons_succ])
      refine wpAnyH_take (i := 23) (v := undef) (by rw [List.getElem?_toArray]; rfl) (by kernel_rfl) (by kernel_rfl) (by kernel_rfl) (by intro _ _ _ h; exact h) (Or.inr ⟨by rfl, rfl⟩) (by assumption) ?_
      (try simp only [Act.put, List.setIfInBounds_toArray, List.set_cons_zero, List.set_cons_succ])
      refine wpAnyH_take (i := 24) (v := ?_) (by rw [List.getElem?_toArray]; rfl) (by kernel_rfl) (by kernel_rfl) (by kernel_rfl) (by intro _ _ _ h; exact h) (Or.inl ⟨by rfl, ?_⟩) (by assumption) ?_
      rotate_left
      · (intro w hSw; (try dsimp only at hSw); go_simp; all_goals with_reducible rfl)
      (try simp only [Act.put, List.setIfInBounds_toArray, List.set_cons_zero, List.set_cons_succ])
      refine wpAnyH_take (i := 25) (v := ?_) (by rw [List.getElem?_toArray]; rfl) (by kernel_rfl) (by kernel_rfl) (by kernel_rfl) (by intro _ _ _ h; exact h) (Or.inl ⟨by rfl, ?_⟩) (by assumption) ?_
      rotate_left
      · (intro w hSw; (try dsimp only at hSw); go_simp; all_goals with_reducible rfl)
      (try simp only [Act.put, List.setIfInBounds_toArray, List.set_cons_zero, List.set_cons_succ])
      refine wpAnyH_done (by kernel_rfl) ?_ _
      replace B := B.trans (XB.mono B.size)
      clear SK XB N P
      (try go_wp2_with fail)
      first | (go_ret; exact ⟨rfl, B⟩) | exact bodyPost_ret (v := (.bool false)) (by simp (maxDischargeDepth := 6) [results, Tryd.results46, go_sem, *]) rfl ⟨rfl, B⟩
    · obtain ⟨_, hs0, hs1, hs2⟩ := sfB_t h5
      obtain ⟨q, hq⟩ : ∃ q : Nat, q = sl.toNat := ⟨_, rfl⟩
      obtain ⟨b, off, rfl, hf⟩ : ∃ b off, p = some ⟨b, off, none⟩ ∧ Cs w b off (m * 2) (MFSlot PM) := by
        rcases HP.out with q | q
        · exact absurd q (by omega)
        · exact q
      obtain ⟨o, l, hM⟩ := tupSlot PM q
      have hqm : q < m := by omega
      have hf' := hf.below B hf.1
      have hbb := hf'.1
      obtain ⟨c0, -⟩ := hf'.elSlot hqm hM
      have e0 : hmB PM m 3 fr tu no lo hi sl bo = (o == fr) := by
        unfold hmB
        rw [h4, decide_eq_true (show sl < (m : Int) by omega), ← hq, hM]
        simp only [decide_true, Bool.true_and]
        rw [Bool.eq_iff_iff]
        simp
      rw [e0]
      obtain rfl : sl = (q : Int) := by omega
      have hli : (q : Int) < (m : Int) := by omega
      clear e0 hpl hsl hq hs0 hs1 hs2 hM hf hf'
      cases qo : (o == fr)
      · go_enter Tryd.func46, Tryd.ntmps46
        go_upto_region 1 with fail
        generalize (w.alloc (.cells #[.int .i64 s, .int .i64 g, .slice (some ⟨b, off, none⟩) m d] 27)).alloc (.cells #[.int .i64 3, .int .i64 fr, .int .i64 tu, .int .i64 no, .int .i64 lo, .int .i64 hi, .int .i64 (q : Int), .string bo] 31) = v at *
        have SK : Hid (∀ w', Below v.heap.size v w' → ((fun w' => w'.cell? ⟨w.heap.size, 0, none⟩ = some (.int .i64 s) ∧ w'.cell? ⟨w.heap.size, 1, none⟩ = some (.int .i64 g) ∧ w'.cell? ⟨w.heap.size, 2, none⟩ = some (.slice (some ⟨b, off, none⟩) m d) ∧ w'.cell? ⟨w.heap.size + 1, 0, none⟩ = some (.int .i64 3) ∧ w'.cell? ⟨w.heap.size + 1, 1, none⟩ = some (.int .i64 fr) ∧ w'.cell? ⟨w.heap.size + 1, 2, none⟩ = some (.int .i64 tu) ∧ w'.cell? ⟨w.heap.size + 1, 3, none⟩ = some (.int .i64 no) ∧ w'.cell? ⟨w.heap.size + 1, 4, none⟩ = some (.int .i64 lo) ∧ w'.cell? ⟨w.heap.size + 1, 5, none⟩ = some (.int .i64 hi) ∧ w'.cell? ⟨w.heap.size + 1, 6, none⟩ = some (.int .i64 q) ∧ w'.cell? ⟨w.heap.size + 1, 7, none⟩ = some (.string bo) ∧ w'.cell? ⟨b, off + q * 2, none⟩ = some (.int .i64 o))) w') := fun w' hw => ⟨(N.below hw).2.1, (N.below hw).2.2.1, (N.below hw).2.2.2.1, (P.below hw).2.1, (P.below hw).2.2.1, (P.below hw).2.2.2.1, (P.below hw).2.2.2.2.1, (P.below hw).2.2.2.2.2.1, (P.below hw).2.2.2.2.2.2.1, (P.below hw).2.2.2.2.2.2.2.1, (P.below hw).2.2.2.2.2.2.2.2, (by rw [hw.cell (p := ⟨b, off + q * 2, none⟩) hbb]; exact c0)⟩
        refine wp_region_held_drew (S := (fun w' => w'.cell? ⟨w.heap.size, 0, none⟩ = some (.int .i64 s) ∧ w'.cell? ⟨w.heap.size, 1, none⟩ = some (.int .i64 g) ∧ w'.cell? ⟨w.heap.size, 2, none⟩ = some (.slice (some ⟨b, off, none⟩) m d) ∧ w'.cell? ⟨w.heap.size + 1, 0, none⟩ = some (.int .i64 3) ∧ w'.cell? ⟨w.heap.size + 1, 1, none⟩ = some (.int .i64 fr) ∧ w'.cell? ⟨w.heap.size + 1, 2, none⟩ = some (.int .i64 tu) ∧ w'.cell? ⟨w.heap.size + 1, 3, none⟩ = some (.int .i64 no) ∧ w'.cell? ⟨w.heap.size + 1, 4, none⟩ = some (.int .i64 lo) ∧ w'.cell? ⟨w.heap.size + 1, 5, none⟩ = some (.int .i64 hi) ∧ w'.cell? ⟨w.heap.size + 1, 6, none⟩ = some (.int .i64 q) ∧ w'.cell? ⟨w.heap.size + 1, 7, none⟩ = some (.string bo) ∧ w'.cell? ⟨b, off + q * 2, none⟩ = some (.int .i64 o))) (by kernel_rfl) ?_ (fun hHeld => ?_)
        · first | exact SK.out _ XB | exact SK.out _ (Below.drew (Below.refl _ _))
        have XB : Below v.heap.size v v.drew := Below.drew (Below.refl _ _)
        generalize v.drew = vx at *
        refine wpAnyH_take (i := 0) (v := ?_) (by rw [List.getElem?_toArray]; rfl) (by kernel_rfl) (by kernel_rfl) (by kernel_rfl) (by intro _ _ _ h; exact h) (Or.inl ⟨by rfl, ?_⟩) (by assumption) ?_
        rotate_left
        · (intro w hSw; (try dsimp only at hSw); go_simp; all_goals with_reducible rfl)
        (try simp only [Act.put, List.setIfInBounds_toArray, List.set_cons_zero, List.set_cons_succ])
        refine wpAnyH_ready (rs := [1]) (by kernel_rfl) (by simp) ?_
        refine AllReadyH.cons (by rw [List.getElem?_toArray]; rfl) (fun K hK => ?_) AllReadyH.nil
        go_simp
        refine (CM vx).mono ?_; rintro ee vx ⟨rfl, hbl⟩; rw [h4]; (replace XB := XB.trans (hbl.mono XB.size)); (clear hbl)
        (try go_wp2_with fail)
        refine hK.out _ _ ?_ (fun hHeld => ?_)
        · first | exact SK.out _ XB | exact SK.out _ (Below.drew (Below.refl _ _))
        clear hK K
        (try simp only [Act.put, List.setIfInBounds_toArray, List.set_cons_zero, List.set_cons_succ])
        refine wpAnyH_take (i := 2) (v := ?_) (by rw [List.getElem?_toArray]; rfl) (by kernel_rfl) (by kernel_rfl) (by kernel_rfl) (by intro _ _ _ h; exact h) (Or.inl ⟨by rfl, ?_⟩) (by assumption) ?_
        rotate_left
        · (intro w hSw; (try dsimp only at hSw); go_simp; all_goals with_reducible rfl)
        (try simp only [Act.put, List.setIfInBounds_toArray, List.set_cons_zero, List.set_cons_succ])
        refine wpAnyH_take (i := 3) (v := ?_) (by rw [List.getElem?_toArray]; rfl) (by kernel_rfl) (by kernel_rfl) (by kernel_rfl) (by intro _ _ _ h; exact h) (Or.inl ⟨by rfl, ?_⟩) (by assumption) ?_
        rotate_left
        · (intro w hSw; (try dsimp only at hSw); go_simp; all_goals with_reducible rfl)
        (try simp only [Act.put, List.setIfInBounds_toArray, List.set_cons_zero, List.set_cons_succ])
        refine wpAnyH_take (i := 4) (v := ?_) (by rw [List.getElem?_toArray]; rfl) (by kernel_rfl) (by kernel_rfl) (by kernel_rfl) (by intro _ _ _ h; exact h) (Or.inl ⟨by rfl, ?_⟩) (by assumption) ?_
        rotate_left
        · (intro w hSw; (try dsimp only at hSw); go_simp; all_goals with_reducible rfl)
        (try simp only [Act.put, List.setIfInBounds_toArray, List.set_cons_zero, List.set_cons_succ])
        refine wpAnyH_take (i := 5) (v := ?_) (by rw [List.getElem?_toArray]; rfl) (by kernel_rfl) (by kernel_rfl) (by kernel_rfl) (by intro _ _ _ h; exact h) (Or.inl ⟨by rfl, ?_⟩) (by assumption) ?_
        rotate_left
        · (intro w hSw; (try dsimp only at hSw); go_simp; all_goals with_reducible rfl)
        (try simp only [Act.put, List.setIfInBounds_toArray, List.set_cons_zero, List.set_cons_succ])
        refine wpAnyH_take (i := 6) (v := ?_) (by rw [List.getElem?_toArray]; rfl) (by kernel_rfl) (by kernel_rfl) (by kernel_rfl) (by intro _ _ _ h; exact h) (Or.inl ⟨by rfl, ?_⟩) (by assumption) ?_
        rotate_left
        · (intro w hSw; (try dsimp only at hSw); go_simp; all_goals with_reducible rfl)
        (try simp only [Act.put, List.setIfInBounds_toArray, List.set_cons_zero, List.set_cons_succ])
        refine wpAnyH_take (i := 7) (v := ?_) (by rw [List.getElem?_toArray]; rfl) (by kernel_rfl) (by kernel_rfl) (by kernel_rfl) (by intro _ _ _ h; exact h) (Or.inl ⟨by rfl, ?_⟩) (by assumption) ?_
        rotate_left
        · (intro w hSw; (try dsimp only at hSw); go_simp; all_goals with_reducible rfl)
        (try simp only [Act.put, List.setIfInBounds_toArray, List.set_cons_zero, List.set_cons_succ])
        refine wpAnyH_take (i := 8) (v := ?_) (by rw [List.getElem?_toArray]; rfl) (by kernel_rfl) (by kernel_rfl) (by kernel_rfl) (by intro _ _ _ h; exact h) (Or.inl ⟨by rfl, ?_⟩) (by assumption) ?_
        rotate_left
        · (intro w hSw; (try dsimp only at hSw); go_simp; all_goals with_reducible rfl)
        (try simp only [Act.put, List.setIfInBounds_toArray, List.set_cons_zero, List.set_cons_succ])
        refine wpAnyH_take (i := 9) (v := ?_) (by rw [List.getElem?_toArray]; rfl) (by kernel_rfl) (by kernel_rfl) (by kernel_rfl) (by intro _ _ _ h; exact h) (Or.inl ⟨by rfl, ?_⟩) (by assumption) ?_
        rotate_left
        · (intro w hSw; (try dsimp only at hSw); go_simp; all_goals with_reducible rfl)
        (try simp only [Act.put, List.setIfInBounds_toArray, List.set_cons_zero, List.set_cons_succ])
        refine wpAnyH_take (i := 10) (v := ?_) (by rw [List.getElem?_toArray]; rfl) (by kernel_rfl) (by kernel_rfl) (by kernel_rfl) (by intro _ _ _ h; exact h) (Or.inl ⟨by rfl, ?_⟩) (by assumption) ?_
        rotate_left
        · (intro w hSw; (try dsimp only at hSw); go_simp; all_goals with_reducible rfl)
        (try simp only [Act.put, List.setIfInBounds_toArray, List.set_cons_zero, List.set_cons_succ])
        refine wpAnyH_ready (rs := [11]) (by kernel_rfl) (by simp) ?_
        refine AllReadyH.cons (by rw [List.getElem?_toArray]; rfl) (fun K hK => ?_) AllReadyH.nil
        go_simp
        refine (CH vx (HP.out.below (B.trans (XB.mono B.size)))).mono ?_; rintro ee vx ⟨rfl, hbl⟩; rw [h5]; (replace XB := XB.trans (hbl.mono XB.size)); (clear hbl)
        (try go_wp2_with fail)
        refine hK.out _ _ ?_ (fun hHeld => ?_)
        · first | exact SK.out _ XB | exact SK.out _ (Below.drew (Below.refl _ _))
        clear hK K
        (try simp only [Act.put, List.setIfInBounds_toArray, List.set_cons_zero, List.set_cons_succ])
        refine wpAnyH_take (i := 12) (v := ?_) (by rw [List.getElem?_toArray]; rfl) (by kernel_rfl) (by kernel_rfl) (by kernel_rfl) (by intro _ _ _ h; exact h) (Or.inl ⟨by rfl, ?_⟩) (by assumption) ?_
        rotate_left
        · (intro w hSw; (try dsimp only at hSw); go_simp; all_goals with_reducible rfl)
        (try simp only [Act.put, List.setIfInBounds_toArray, List.set_cons_zero, List.set_cons_succ])
        refine wpAnyH_take (i := 13) (v := ?_) (by rw [List.getElem?_toArray]; rfl) (by kernel_rfl) (by kernel_rfl) (by kernel_rfl) (by intro _ _ _ h; exact h) (Or.inl ⟨by rfl, ?_⟩) (by assumption) ?_
        rotate_left
        · (intro w hSw; (try dsimp only at hSw); go_simp; all_goals with_reducible rfl)
        (try simp only [Act.put, List.setIfInBounds_toArray, List.set_cons_zero, List.set_cons_succ])
        refine wpAnyH_take (i := 14) (v := ?_) (by rw [List.getElem?_toArray]; rfl) (by kernel_rfl) (by kernel_rfl) (by kernel_rfl) (by intro _ _ _ h; exact h) (Or.inl ⟨by rfl, ?_⟩) (by assumption) ?_
        rotate_left
        · (intro w hSw; (try dsimp only at hSw); go_simp; all_goals with_reducible rfl)
        (try simp only [Act.put, List.setIfInBounds_toArray, List.set_cons_zero, List.set_cons_succ])
        refine wpAnyH_take (i := 15) (v := ?_) (by rw [List.getElem?_toArray]; rfl) (by kernel_rfl) (by kernel_rfl) (by kernel_rfl) (by intro _ _ _ h; exact h) (Or.inl ⟨by rfl, ?_⟩) (by assumption) ?_
        rotate_left
        · (intro w hSw; (try dsimp only at hSw); go_simp; all_goals with_reducible rfl)
        (try simp only [Act.put, List.setIfInBounds_toArray, List.set_cons_zero, List.set_cons_succ])
        refine wpAnyH_take (i := 16) (v := ?_) (by rw [List.getElem?_toArray]; rfl) (by kernel_rfl) (by kernel_rfl) (by kernel_rfl) (by intro _ _ _ h; exact h) (Or.inl ⟨by rfl, ?_⟩) (by assumption) ?_
        rotate_left
        · (intro w hSw; (try dsimp only at hSw); go_simp; all_goals with_reducible rfl)
        (try simp only [Act.put, List.setIfInBounds_toArray, List.set_cons_zero, List.set_cons_succ])
        refine wpAnyH_take (i := 17) (v := ?_) (by rw [List.getElem?_toArray]; rfl) (by kernel_rfl) (by kernel_rfl) (by kernel_rfl) (by intro _ _ _ h; exact h) (Or.inl ⟨by rfl, ?_⟩) (by assumption) ?_
        rotate_left
        · (intro w hSw; (try dsimp only at hSw); go_simp; all_goals with_reducible rfl)
        (try simp only [Act.put, List.setIfInBounds_toArray, List.set_cons_zero, List.set_cons_succ])
        refine wpAnyH_take (i := 18) (v := ?_) (by rw [List.getElem?_toArray]; rfl) (by kernel_rfl) (by kernel_rfl) (by kernel_rfl) (by intro _ _ _ h; exact h) (Or.inl ⟨by rfl, ?_⟩) (by assumption) ?_
        rotate_left
        · (intro w hSw; (try dsimp only at hSw); go_simp; all_goals with_reducible rfl)
        (try simp only [Act.put, List.setIfInBounds_toArray, List.set_cons_zero, List.set_cons_succ])
        refine wpAnyH_take (i := 19) (v := ?_) (by rw [List.getElem?_toArray]; rfl) (by kernel_rfl) (by kernel_rfl) (by kernel_rfl) (by intro _ _ _ h; exact h) (Or.inl ⟨by rfl, ?_⟩) (by assumption) ?_
        rotate_left
        · (intro w hSw; (try dsimp only at hSw); go_simp; all_goals with_reducible rfl)
        (try simp only [Act.put, List.setIfInBounds_toArray, List.set_cons_zero, List.set_cons_succ])
        refine wpAnyH_take (i := 20) (v := ?_) (by rw [List.getElem?_toArray]; rfl) (by kernel_rfl) (by kernel_rfl) (by kernel_rfl) (by intro _ _ _ h; exact h) (Or.inl ⟨by rfl, ?_⟩) (by assumption) ?_
        rotate_left
        · (intro w hSw; (try dsimp only at hSw); go_simp; all_goals with_reducible rfl)
        (try simp only [Act.put, List.setIfInBounds_toArray, List.set_cons_zero, List.set_cons_succ])
        refine wpAnyH_take (i := 21) (v := ?_) (by rw [List.getElem?_toArray]; rfl) (by kernel_rfl) (by kernel_rfl) (by kernel_rfl) (by intro _ _ _ h; exact h) (Or.inl ⟨by rfl, ?_⟩) (by assumption) ?_
        rotate_left
        · (intro w hSw; (try dsimp only at hSw); go_simp; all_goals with_reducible rfl)
        (try simp only [Act.put, List.setIfInBounds_toArray, List.set_cons_zero, List.set_cons_succ])
        refine wpAnyH_take (i := 22) (v := ?_) (by rw [List.getElem?_toArray]; rfl) (by kernel_rfl) (by kernel_rfl) (by kernel_rfl) (by intro _ _ _ h; exact h) (Or.inl ⟨by rfl, ?_⟩) (by assumption) ?_
        rotate_left
        · (intro w hSw; (try dsimp only at hSw); go_simp; all_goals with_reducible rfl)
        (try simp only [Act.put, List.setIfInBounds_toArray, List.set_cons_zero, List.set_cons_succ])
        refine wpAnyH_take (i := 23) (v := ?_) (by rw [List.getElem?_toArray]; rfl) (by kernel_rfl) (by kernel_rfl) (by kernel_rfl) (by intro _ _ _ h; exact h) (Or.inl ⟨by rfl, ?_⟩) (by assumption) ?_
        rotate_left
        · (intro w hSw; (try dsimp only at hSw); go_simp; all_goals with_reducible rfl)
        (try simp only [Act.put, List.setIfInBounds_toArray, List.set_cons_zero, List.set_cons_succ])
        (try simp only [qo])
        refine wpAnyH_take (i := 24) (v := ?_) (by rw [List.getElem?_toArray]; rfl) (by kernel_rfl) (by kernel_rfl) (by kernel_rfl) (by intro _ _ _ h; exact h) (Or.inl ⟨by rfl, ?_⟩) (by assumption) ?_
        rotate_left
        · (intro w hSw; (try dsimp only at hSw); go_simp; all_goals with_reducible rfl)
        (try simp only [Act.put, List.setIfInBounds_toArray, List.set_cons_zero, List.set_cons_succ])
        refine wpAnyH_take (i := 25) (v := ?_) (by rw [List.getElem?_toArray]; rfl) (by kernel_rfl) (by kernel_rfl) (by kernel_rfl) (by intro _ _ _ h; exact h) (Or.inl ⟨by rfl, ?_⟩) (by assumption) ?_
        rotate_left
        · (intro w hSw; (try dsimp only at hSw); go_simp; all_goals with_reducible rfl)
        (try simp only [Act.put, List.setIfInBounds_toArray, List.set_cons_zero, List.set_cons_succ])
        refine wpAnyH_done (by kernel_rfl) ?_ _
        replace B := B.trans (XB.mono B.size)
        clear SK XB N P
        (try go_wp2_with fail)
        first | (go_ret; exact ⟨rfl, B⟩) | exact bodyPost_ret (v := (.bool false)) (by simp (maxDischargeDepth := 6) [results, Tryd.results46, go_sem, *]) rfl ⟨rfl, B⟩
      · go_enter Tryd.func46, Tryd.ntmps46
        go_upto_region 1 with fail
        generalize (w.alloc (.cells #[.int .i64 s, .int .i64 g, .slice (some ⟨b, off, none⟩) m d] 27)).alloc (.cells #[.int .i64 3, .int .i64 fr, .int .i64 tu, .int .i64 no, .int .i64 lo, .int .i64 hi, .int .i64 (q : Int), .string bo] 31) = v at *
        have SK : Hid (∀ w', Below v.heap.size v w' → ((fun w' => w'.cell? ⟨w.heap.size, 0, none⟩ = some (.int .i64 s) ∧ w'.cell? ⟨w.heap.size, 1, none⟩ = some (.int .i64 g) ∧ w'.cell? ⟨w.heap.size, 2, none⟩ = some (.slice (some ⟨b, off, none⟩) m d) ∧ w'.cell? ⟨w.heap.size + 1, 0, none⟩ = some (.int .i64 3) ∧ w'.cell? ⟨w.heap.size + 1, 1, none⟩ = some (.int .i64 fr) ∧ w'.cell? ⟨w.heap.size + 1, 2, none⟩ = some (.int .i64 tu) ∧ w'.cell? ⟨w.heap.size + 1, 3, none⟩ = some (.int .i64 no) ∧ w'.cell? ⟨w.heap.size + 1, 4, none⟩ = some (.int .i64 lo) ∧ w'.cell? ⟨w.heap.size + 1, 5, none⟩ = some (.int .i64 hi) ∧ w'.cell? ⟨w.heap.size + 1, 6, none⟩ = some (.int .i64 q) ∧ w'.cell? ⟨w.heap.size + 1, 7, none⟩ = some (.string bo) ∧ w'.cell? ⟨b, off + q * 2, none⟩ = some (.int .i64 o))) w') := fun w' hw => ⟨(N.below hw).2.1, (N.below hw).2.2.1, (N.below hw).2.2.2.1, (P.below hw).2.1, (P.below hw).2.2.1, (P.below hw).2.2.2.1, (P.below hw).2.2.2.2.1, (P.below hw).2.2.2.2.2.1, (P.below hw).2.2.2.2.2.2.1, (P.below hw).2.2.2.2.2.2.2.1, (P.below hw).2.2.2.2.2.2.2.2, (by rw [hw.cell (p := ⟨b, off + q * 2, none⟩) hbb]; exact c0)⟩
        refine wp_region_held_drew (S := (fun w' => w'.cell? ⟨w.heap.size, 0, none⟩ = some (.int .i64 s) ∧ w'.cell? ⟨w.heap.size, 1, none⟩ = some (.int .i64 g) ∧ w'.cell? ⟨w.heap.size, 2, none⟩ = some (.slice (some ⟨b, off, none⟩) m d) ∧ w'.cell? ⟨w.heap.size + 1, 0, none⟩ = some (.int .i64 3) ∧ w'.cell? ⟨w.heap.size + 1, 1, none⟩ = some (.int .i64 fr) ∧ w'.cell? ⟨w.heap.size + 1, 2, none⟩ = some (.int .i64 tu) ∧ w'.cell? ⟨w.heap.size + 1, 3, none⟩ = some (.int .i64 no) ∧ w'.cell? ⟨w.heap.size + 1, 4, none⟩ = some (.int .i64 lo) ∧ w'.cell? ⟨w.heap.size + 1, 5, none⟩ = some (.int .i64 hi) ∧ w'.cell? ⟨w.heap.size + 1, 6, none⟩ = some (.int .i64 q) ∧ w'.cell? ⟨w.heap.size + 1, 7, none⟩ = some (.string bo) ∧ w'.cell? ⟨b, off + q * 2, none⟩ = some (.int .i64 o))) (by kernel_rfl) ?_ (fun hHeld => ?_)
        · first | exact SK.out _ XB | exact SK.out _ (Below.drew (Below.refl _ _))
        have XB : Below v.heap.size v v.drew := Below.drew (Below.refl _ _)
        generalize v.drew = vx at *
        refine wpAnyH_take (i := 0) (v := ?_) (by rw [List.getElem?_toArray]; rfl) (by kernel_rfl) (by kernel_rfl) (by kernel_rfl) (by intro _ _ _ h; exact h) (Or.inl ⟨by rfl, ?_⟩) (by assumption) ?_
        rotate_left
        · (intro w hSw; (try dsimp only at hSw); go_simp; all_goals with_reducible rfl)
        (try simp only [Act.put, List.setIfInBounds_toArray, List.set_cons_zero, List.set_cons_succ])
        refine wpAnyH_ready (rs := [1]) (by kernel_rfl) (by simp) ?_
        refine AllReadyH.cons (by rw [List.getElem?_toArray]; rfl) (fun K hK => ?_) AllReadyH.nil
        go_simp
        refine (CM vx).mono ?_; rintro ee vx ⟨rfl, hbl⟩; rw [h4]; (replace XB := XB.trans (hbl.mono XB.size)); (clear hbl)
        (try go_wp2_with fail)
        refine hK.out _ _ ?_ (fun hHeld => ?_)
        · first | exact SK.out _ XB | exact SK.out _ (Below.drew (Below.refl _ _))
        clear hK K
        (try simp only [Act.put, List.setIfInBounds_toArray, List.set_cons_zero, List.set_cons_succ])
        refine wpAnyH_take (i := 2) (v := ?_) (by rw [List.getElem?_toArray]; rfl) (by kernel_rfl) (by kernel_rfl) (by kernel_rfl) (by intro _ _ _ h; exact h) (Or.inl ⟨by rfl, ?_⟩) (by assumption) ?_
        rotate_left
        · (intro w hSw; (try dsimp only at hSw); go_simp; all_goals with_reducible rfl)
        (try simp only [Act.put, List.setIfInBounds_toArray, List.set_cons_zero, List.set_cons_succ])
        refine wpAnyH_take (i := 3) (v := ?_) (by rw [List.getElem?_toArray]; rfl) (by kernel_rfl) (by kernel_rfl) (by kernel_rfl) (by intro _ _ _ h; exact h) (Or.inl ⟨by rfl, ?_⟩) (by assumption) ?_
        rotate_left
        · (intro w hSw; (try dsimp only at hSw); go_simp; all_goals with_reducible rfl)
        (try simp only [Act.put, List.setIfInBounds_toArray, List.set_cons_zero, List.set_cons_succ])
        refine wpAnyH_take (i := 4) (v := ?_) (by rw [List.getElem?_toArray]; rfl) (by kernel_rfl) (by kernel_rfl) (by kernel_rfl) (by intro _ _ _ h; exact h) (Or.inl ⟨by rfl, ?_⟩) (by assumption) ?_
        rotate_left
        · (intro w hSw; (try dsimp only at hSw); go_simp; all_goals with_reducible rfl)
        (try simp only [Act.put, List.setIfInBounds_toArray, List.set_cons_zero, List.set_cons_succ])
        refine wpAnyH_take (i := 5) (v := ?_) (by rw [List.getElem?_toArray]; rfl) (by kernel_rfl) (by kernel_rfl) (by kernel_rfl) (by intro _ _ _ h; exact h) (Or.inl ⟨by rfl, ?_⟩) (by assumption) ?_
        rotate_left
        · (intro w hSw; (try dsimp only at hSw); go_simp; all_goals with_reducible rfl)
        (try simp only [Act.put, List.setIfInBounds_toArray, List.set_cons_zero, List.set_cons_succ])
        refine wpAnyH_take (i := 6) (v := ?_) (by rw [List.getElem?_toArray]; rfl) (by kernel_rfl) (by kernel_rfl) (by kernel_rfl) (by intro _ _ _ h; exact h) (Or.inl ⟨by rfl, ?_⟩) (by assumption) ?_
        rotate_left
        · (intro w hSw; (try dsimp only at hSw); go_simp; all_goals with_reducible rfl)
        (try simp only [Act.put, List.setIfInBounds_toArray, List.set_cons_zero, List.set_cons_succ])
        refine wpAnyH_take (i := 7) (v := ?_) (by rw [List.getElem?_toArray]; rfl) (by kernel_rfl) (by kernel_rfl) (by kernel_rfl) (by intro _ _ _ h; exact h) (Or.inl ⟨by rfl, ?_⟩) (by assumption) ?_
        rotate_left
        · (intro w hSw; (try dsimp only at hSw); go_simp; all_goals with_reducible rfl)
        (try simp only [Act.put, List.setIfInBounds_toArray, List.set_cons_zero, List.set_cons_succ])
        refine wpAnyH_take (i := 8) (v := ?_) (by rw [List.getElem?_toArray]; rfl) (by kernel_rfl) (by kernel_rfl) (by kernel_rfl) (by intro _ _ _ h; exact h) (Or.inl ⟨by rfl, ?_⟩) (by assumption) ?_
        rotate_left
        · (intro w hSw; (try dsimp only at hSw); go_simp; all_goals with_reducible rfl)
        (try simp only [Act.put, List.setIfInBounds_toArray, List.set_cons_zero, List.set_cons_succ])
        refine wpAnyH_take (i := 9) (v := ?_) (by rw [List.getElem?_toArray]; rfl) (by kernel_rfl) (by kernel_rfl) (by kernel_rfl) (by intro _ _ _ h; exact h) (Or.inl ⟨by rfl, ?_⟩) (by assumption) ?_
        rotate_left
        · (intro w hSw; (try dsimp only at hSw); go_simp; all_goals with_reducible rfl)
        (try simp only [Act.put, List.setIfInBounds_toArray, List.set_cons_zero, List.set_cons_succ])
        refine wpAnyH_take (i := 10) (v := ?_) (by rw [List.getElem?_toArray]; rfl) (by kernel_rfl) (by kernel_rfl) (by kernel_rfl) (by intro _ _ _ h; exact h) (Or.inl ⟨by rfl, ?_⟩) (by assumption) ?_
        rotate_left
        · (intro w hSw; (try dsimp only at hSw); go_simp; all_goals with_reducible rfl)
        (try simp only [Act.put, List.setIfInBounds_toArray, List.set_cons_zero, List.set_cons_succ])
        refine wpAnyH_ready (rs := [11]) (by kernel_rfl) (by simp) ?_
        refine AllReadyH.cons (by rw [List.getElem?_toArray]; rfl) (fun K hK => ?_) AllReadyH.nil
        go_simp
        refine (CH vx (HP.out.below (B.trans (XB.mono B.size)))).mono ?_; rintro ee vx ⟨rfl, hbl⟩; rw [h5]; (replace XB := XB.trans (hbl.mono XB.size)); (clear hbl)
        (try go_wp2_with fail)
        refine hK.out _ _ ?_ (fun hHeld => ?_)
        · first | exact SK.out _ XB | exact SK.out _ (Below.drew (Below.refl _ _))
        clear hK K
        (try simp only [Act.put, List.setIfInBounds_toArray, List.set_cons_zero, List.set_cons_succ])
        refine wpAnyH_take (i := 12) (v := ?_) (by rw [List.getElem?_toArray]; rfl) (by kernel_rfl) (by kernel_rfl) (by kernel_rfl) (by intro _ _ _ h; exact h) (Or.inl ⟨by rfl, ?_⟩) (by assumption) ?_
        rotate_left
        · (intro w hSw; (try dsimp only at hSw); go_simp; all_goals with_reducible rfl)
        (try simp only [Act.put, List.setIfInBounds_toArray, List.set_cons_zero, List.set_cons_succ])
        refine wpAnyH_take (i := 13) (v := ?_) (by rw [List.getElem?_toArray]; rfl) (by kernel_rfl) (by kernel_rfl) (by kernel_rfl) (by intro _ _ _ h; exact h) (Or.inl ⟨by rfl, ?_⟩) (by assumption) ?_
        rotate_left
        · (intro w hSw; (try dsimp only at hSw); go_simp; all_goals with_reducible rfl)
        (try simp only [Act.put, List.setIfInBounds_toArray, List.set_cons_zero, List.set_cons_succ])
        refine wpAnyH_take (i := 14) (v := ?_) (by rw [List.getElem?_toArray]; rfl) (by kernel_rfl) (by kernel_rfl) (by kernel_rfl) (by intro _ _ _ h; exact h) (Or.inl ⟨by rfl, ?_⟩) (by assumption) ?_
        rotate_left
        · (intro w hSw; (try dsimp only at hSw); go_simp; all_goals with_reducible rfl)
        (try simp only [Act.put, List.setIfInBounds_toArray, List.set_cons_zero, List.set_cons_succ])
        refine wpAnyH_take (i := 15) (v := ?_) (by rw [List.getElem?_toArray]; rfl) (by kernel_rfl) (by kernel_rfl) (by kernel_rfl) (by intro _ _ _ h; exact h) (Or.inl ⟨by rfl, ?_⟩) (by assumption) ?_
        rotate_left
        · (intro w hSw; (try dsimp only at hSw); go_simp; all_goals with_reducible rfl)
        (try simp only [Act.put, List.setIfInBounds_toArray, List.set_cons_zero, List.set_cons_succ])
        refine wpAnyH_take (i := 16) (v := ?_) (by rw [List.getElem?_toArray]; rfl) (by kernel_rfl) (by kernel_rfl) (by kernel_rfl) (by intro _ _ _ h; exact h) (Or.inl ⟨by rfl, ?_⟩) (by assumption) ?_
        rotate_left
        · (intro w hSw; (try dsimp only at hSw); go_simp; all_goals with_reducible rfl)
        (try simp only [Act.put, List.setIfInBounds_toArray, List.set_cons_zero, List.set_cons_succ])
        refine wpAnyH_take (i := 17) (v := ?_) (by rw [List.getElem?_toArray]; rfl) (by kernel_rfl) (by kernel_rfl) (by kernel_rfl) (by intro _ _ _ h; exact h) (Or.inl ⟨by rfl, ?_⟩) (by assumption) ?_
        rotate_left
        · (intro w hSw; (try dsimp only at hSw); go_simp; all_goals with_reducible rfl)
        (try simp only [Act.put, List.setIfInBounds_toArray, List.set_cons_zero, List.set_cons_succ])
        refine wpAnyH_take (i := 18) (v := ?_) (by rw [List.getElem?_toArray]; rfl) (by kernel_rfl) (by kernel_rfl) (by kernel_rfl) (by intro _ _ _ h; exact h) (Or.inl ⟨by rfl, ?_⟩) (by assumption) ?_
        rotate_left
        · (intro w hSw; (try dsimp only at hSw); go_simp; all_goals with_reducible rfl)
        (try simp only [Act.put, List.setIfInBounds_toArray, List.set_cons_zero, List.set_cons_succ])
        refine wpAnyH_take (i := 19) (v := ?_) (by rw [List.getElem?_toArray]; rfl) (by kernel_rfl) (by kernel_rfl) (by kernel_rfl) (by intro _ _ _ h; exact h) (Or.inl ⟨by rfl, ?_⟩) (by assumption) ?_
        rotate_left
        · (intro w hSw; (try dsimp only at hSw); go_simp; all_goals with_reducible rfl)
        (try simp only [Act.put, List.setIfInBounds_toArray, List.set_cons_zero, List.set_cons_succ])
        refine wpAnyH_take (i := 20) (v := ?_) (by rw [List.getElem?_toArray]; rfl) (by kernel_rfl) (by kernel_rfl) (by kernel_rfl) (by intro _ _ _ h; exact h) (Or.inl ⟨by rfl, ?_⟩) (by assumption) ?_
        rotate_left
        · (intro w hSw; (try dsimp only at hSw); go_simp; all_goals with_reducible rfl)
        (try simp only [Act.put, List.setIfInBounds_toArray, List.set_cons_zero, List.set_cons_succ])
        refine wpAnyH_take (i := 21) (v := ?_) (by rw [List.getElem?_toArray]; rfl) (by kernel_rfl) (by kernel_rfl) (by kernel_rfl) (by intro _ _ _ h; exact h) (Or.inl ⟨by rfl, ?_⟩) (by assumption) ?_
        rotate_left
        · (intro w hSw; (try dsimp only at hSw); go_simp; all_goals with_reducible rfl)
        (try simp only [Act.put, List.setIfInBounds_toArray, List.set_cons_zero, List.set_cons_succ])
        refine wpAnyH_take (i := 22) (v := ?_) (by rw [List.getElem?_toArray]; rfl) (by kernel_rfl) (by kernel_rfl) (by kernel_rfl) (by intro _ _ _ h; exact h) (Or.inl ⟨by rfl, ?_⟩) (by assumption) ?_
        rotate_left
        · (intro w hSw; (try dsimp only at hSw); go_simp; all_goals with_reducible rfl)
        (try simp only [Act.put, List.setIfInBounds_toArray, List.set_cons_zero, List.set_cons_succ])
        refine wpAnyH_take (i := 23) (v := ?_) (by rw [List.getElem?_toArray]; rfl) (by kernel_rfl) (by kernel_rfl) (by kernel_rfl) (by intro _ _ _ h; exact h) (Or.inl ⟨by rfl, ?_⟩) (by assumption) ?_
        rotate_left
        · (intro w hSw; (try dsimp only at hSw); go_simp; all_goals with_reducible rfl)
        (try simp only [Act.put, List.setIfInBounds_toArray, List.set_cons_zero, List.set_cons_succ])
        (try simp only [qo])
        refine wpAnyH_take (i := 24) (v := ?_) (by rw [List.getElem?_toArray]; rfl) (by kernel_rfl) (by kernel_rfl) (by kernel_rfl) (by intro _ _ _ h; exact h) (Or.inl ⟨by rfl, ?_⟩) (by assumption) ?_
        rotate_left
        · (intro w hSw; (try dsimp only at hSw); go_simp; all_goals with_reducible rfl)
        (try simp only [Act.put, List.setIfInBounds_toArray, List.set_cons_zero, List.set_cons_succ])
        refine wpAnyH_take (i := 25) (v := ?_) (by rw [List.getElem?_toArray]; rfl) (by kernel_rfl) (by kernel_rfl) (by kernel_rfl) (by intro _ _ _ h; exact h) (Or.inl ⟨by rfl, ?_⟩) (by assumption) ?_
        rotate_left
        · (intro w hSw; (try dsimp only at hSw); go_simp; all_goals with_reducible rfl)
        (try simp only [Act.put, List.setIfInBounds_toArray, List.set_cons_zero, List.set_cons_succ])
        refine wpAnyH_done (by kernel_rfl) ?_ _
        replace B := B.trans (XB.mono B.size)
        clear SK XB N P
        (try go_wp2_with fail)
        first | (go_ret; exact ⟨rfl, B⟩) | exact bodyPost_ret (v := (.bool true)) (by simp (maxDischargeDepth := 6) [results, Tryd.results46, go_sem, *]) rfl ⟨rfl, B⟩
  · have e0 : hmB PM m k fr tu no lo hi sl bo = false := by unfold hmB; rw [h4, decide_eq_false k3]; rfl
    have q3 : (k == 3) = false := by rw [beq_eq_false_iff_ne]; exact k3
    rw [e0]
    clear e0 CH HP hpl
    go_enter Tryd.func46, Tryd.ntmps46
    go_upto_region 1 with fail
    generalize (w.alloc (.cells #[.int .i64 s, .int .i64 g, .slice p m d] 27)).alloc (.cells #[.int .i64 k, .int .i64 fr, .int .i64 tu, .int .i64 no, .int .i64 lo, .int .i64 hi, .int .i64 sl, .string bo] 31) = v at *
    have SK : Hid (∀ w', Below v.heap.size v w' → ((fun w' => w'.cell? ⟨w.heap.size, 0, none⟩ = some (.int .i64 s) ∧ w'.cell? ⟨w.heap.size, 1, none⟩ = some (.int .i64 g) ∧ w'.cell? ⟨w.heap.size, 2, none⟩ = some (.slice p m d) ∧ w'.cell? ⟨w.heap.size + 1, 0, none⟩ = some (.int .i64 k) ∧ w'.cell? ⟨w.heap.size + 1, 1, none⟩ = some (.int .i64 fr) ∧ w'.cell? ⟨w.heap.size + 1, 2, none⟩ = some (.int .i64 tu) ∧ w'.cell? ⟨w.heap.size + 1, 3, none⟩ = some (.int .i64 no) ∧ w'.cell? ⟨w.heap.size + 1, 4, none⟩ = some (.int .i64 lo) ∧ w'.cell? ⟨w.heap.size + 1, 5, none⟩ = some (.int .i64 hi) ∧ w'.cell? ⟨w.heap.size + 1, 6, none⟩ = some (.int .i64 sl) ∧ w'.cell? ⟨w.heap.size + 1, 7, none⟩ = some (.string bo))) w') := fun w' hw => ⟨(N.below hw).2.1, (N.below hw).2.2.1, (N.below hw).2.2.2.1, (P.below hw).2.1, (P.below hw).2.2.1, (P.below hw).2.2.2.1, (P.below hw).2.2.2.2.1, (P.below hw).2.2.2.2.2.1, (P.below hw).2.2.2.2.2.2.1, (P.below hw).2.2.2.2.2.2.2.1, (P.below hw).2.2.2.2.2.2.2.2⟩
    refine wp_region_held_drew (S := (fun w' => w'.cell? ⟨w.heap.size, 0, none⟩ = some (.int .i64 s) ∧ w'.cell? ⟨w.heap.size, 1, none⟩ = some (.int .i64 g) ∧ w'.cell? ⟨w.heap.size, 2, none⟩ = some (.slice p m d) ∧ w'.cell? ⟨w.heap.size + 1, 0, none⟩ = some (.int .i64 k) ∧ w'.cell? ⟨w.heap.size + 1, 1, none⟩ = some (.int .i64 fr) ∧ w'.cell? ⟨w.heap.size + 1, 2, none⟩ = some (.int .i64 tu) ∧ w'.cell? ⟨w.heap.size + 1, 3, none⟩ = some (.int .i64 no) ∧ w'.cell? ⟨w.heap.size + 1, 4, none⟩ = some (.int .i64 lo) ∧ w'.cell? ⟨w.heap.size + 1, 5, none⟩ = some (.int .i64 hi) ∧ w'.cell? ⟨w.heap.size + 1, 6, none⟩ = some (.int .i64 sl) ∧ w'.cell? ⟨w.heap.size + 1, 7, none⟩ = some (.string bo))) (by kernel_rfl) ?_ (fun hHeld => ?_)
    · first | exact SK.out _ XB | exact SK.out _ (Below.drew (Below.refl _ _))
    have XB : Below v.heap.size v v.drew := Below.drew (Below.refl _ _)
    generalize v.drew = vx at *
    refine wpAnyH_take (i := 0) (v := ?_) (by rw [List.getElem?_toArray]; rfl) (by kernel_rfl) (by kernel_rfl) (by kernel_rfl) (by intro _ _ _ h; exact h) (Or.inl ⟨by rfl, ?_⟩) (by assumption) ?_
    rotate_left
    · (intro w hSw; (try dsimp only at hSw); go_simp; all_goals with_reducible rfl)
    (try simp only [Act.put, List.setIfInBounds_toArray, List.set_cons_zero, List.set_cons_succ])
    refine wpAnyH_ready (rs := [1]) (by kernel_rfl) (by simp) ?_
    refine AllReadyH.cons (by rw [List.getElem?_toArray]; rfl) (fun K hK => ?_) AllReadyH.nil
    go_simp
    refine (CM vx).mono ?_; rintro ee vx ⟨rfl, hbl⟩; rw [h4]; (replace XB := XB.trans (hbl.mono XB.size)); (clear hbl)
    (try go_wp2_with fail)
    refine hK.out _ _ ?_ (fun hHeld => ?_)
    · first | exact SK.out _ XB | exact SK.out _ (Below.drew (Below.refl _ _))
    clear hK K
    (try simp only [Act.put, List.setIfInBounds_toArray, List.set_cons_zero, List.set_cons_succ])
    refine wpAnyH_take (i := 2) (v := ?_) (by rw [List.getElem?_toArray]; rfl) (by kernel_rfl) (by kernel_rfl) (by kernel_rfl) (by intro _ _ _ h; exact h) (Or.inl ⟨by rfl, ?_⟩) (by assumption) ?_
    rotate_left
    · (intro w hSw; (try dsimp only at hSw); go_simp; all_goals with_reducible rfl)
    (try simp only [Act.put, List.setIfInBounds_toArray, List.set_cons_zero, List.set_cons_succ])
    refine wpAnyH_take (i := 3) (v := ?_) (by rw [List.getElem?_toArray]; rfl) (by kernel_rfl) (by kernel_rfl) (by kernel_rfl) (by intro _ _ _ h; exact h) (Or.inl ⟨by rfl, ?_⟩) (by assumption) ?_
    rotate_left
    · (intro w hSw; (try dsimp only at hSw); go_simp; all_goals with_reducible rfl)
    (try simp only [Act.put, List.setIfInBounds_toArray, List.set_cons_zero, List.set_cons_succ])
    refine wpAnyH_take (i := 4) (v := ?_) (by rw [List.getElem?_toArray]; rfl) (by kernel_rfl) (by kernel_rfl) (by kernel_rfl) (by intro _ _ _ h; exact h) (Or.inl ⟨by rfl, ?_⟩) (by assumption) ?_
    rotate_left
    · (intro w hSw; (try dsimp only at hSw); go_simp; all_goals with_reducible rfl)
    (try simp only [Act.put, List.setIfInBounds_toArray, List.set_cons_zero, List.set_cons_succ])
    refine wpAnyH_take (i := 5) (v := ?_) (by rw [List.getElem?_toArray]; rfl) (by kernel_rfl) (by kernel_rfl) (by kernel_rfl) (by intro _ _ _ h; exact h) (Or.inl ⟨by rfl, ?_⟩) (by assumption) ?_
    rotate_left
    · (intro w hSw; (try dsimp only at hSw); go_simp; all_goals with_reducible rfl)
    (try simp only [Act.put, List.setIfInBounds_toArray, List.set_cons_zero, List.set_cons_succ])
    (try simp only [q3])
    refine wpAnyH_take (i := 6) (v := ?_) (by rw [List.getElem?_toArray]; rfl) (by kernel_rfl) (by kernel_rfl) (by kernel_rfl) (by intro _ _ _ h; exact h) (Or.inl ⟨by rfl, ?_⟩) (by assumption) ?_
    rotate_left
    · (intro w hSw; (try dsimp only at hSw); go_simp; all_goals with_reducible rfl)
    (try simp only [Act.put, List.setIfInBounds_toArray, List.set_cons_zero, List.set_cons_succ])
    refine wpAnyH_take (i := 7) (v := ?_) (by rw [List.getElem?_toArray]; rfl) (by kernel_rfl) (by kernel_rfl) (by kernel_rfl) (by intro _ _ _ h; exact h) (Or.inl ⟨by rfl, ?_⟩) (by assumption) ?_
    rotate_left
    · (intro w hSw; (try dsimp only at hSw); go_simp; all_goals with_reducible rfl)
    (try simp only [Act.put, List.setIfInBounds_toArray, List.set_cons_zero, List.set_cons_succ])
    refine wpAnyH_take (i := 8) (v := undef) (by rw [List.getElem?_toArray]; rfl) (by kernel_rfl) (by kernel_rfl) (by kernel_rfl) (by intro _ _ _ h; exact h) (Or.inr ⟨by rfl, rfl⟩) (by assumption) ?_
    (try simp only [Act.put, List.setIfInBounds_toArray, List.set_cons_zero, List.set_cons_succ])
    refine wpAnyH_take (i := 9) (v := undef) (by rw [List.getElem?_toArray]; rfl) (by kernel_rfl) (by kernel_rfl) (by kernel_rfl) (by intro _ _ _ h; exact h) (Or.inr ⟨by rfl, rfl⟩) (by assumption) ?_
    (try simp only [Act.put, List.setIfInBounds_toArray, List.set_cons_zero, List.set_cons_succ])
    refine wpAnyH_take (i := 10) (v := undef) (by rw [List.getElem?_toArray]; rfl) (by kernel_rfl) (by kernel_rfl) (by kernel_rfl) (by intro _ _ _ h; exact h) (Or.inr ⟨by rfl, rfl⟩) (by assumption) ?_
    (try simp only [Act.put, List.setIfInBounds_toArray, List.set_cons_zero, List.set_cons_succ])
    refine wpAnyH_take (i := 11) (v := undef) (by rw [List.getElem?_toArray]; rfl) (by kernel_rfl) (by kernel_rfl) (by kernel_rfl) (by intro _ _ _ h; exact h) (Or.inr ⟨by rfl, rfl⟩) (by assumption) ?_
    (try simp only [Act.put, List.setIfInBounds_toArray, List.set_cons_zero, List.set_cons_succ])
    refine wpAnyH_take (i := 12) (v := ?_) (by rw [List.getElem?_toArray]; rfl) (by kernel_rfl) (by kernel_rfl) (by kernel_rfl) (by intro _ _ _ h; exact h) (Or.inl ⟨by rfl, ?_⟩) (by assumption) ?_
    rotate_left
    · (intro w hSw; (try dsimp only at hSw); go_simp; all_goals with_reducible rfl)
    (try simp only [Act.put, List.setIfInBounds_toArray, List.set_cons_zero, List.set_cons_succ])
    refine wpAnyH_take (i := 13) (v := ?_) (by rw [List.getElem?_toArray]; rfl) (by kernel_rfl) (by kernel_rfl) (by kernel_rfl) (by intro _ _ _ h; exact h) (Or.inl ⟨by rfl, ?_⟩) (by assumption) ?_
    rotate_left
    · (intro w hSw; (try dsimp only at hSw); go_simp; all_goals with_reducible rfl)
    (try simp only [Act.put, List.setIfInBounds_toArray, List.set_cons_zero, List.set_cons_succ])
    refine wpAnyH_take (i := 14) (v := undef) (by rw [List.getElem?_toArray]; rfl) (by kernel_rfl) (by kernel_rfl) (by kernel_rfl) (by intro _ _ _ h; exact h) (Or.inr ⟨by rfl, rfl⟩) (by assumption) ?_
    (try simp only [Act.put, List.setIfInBounds_toArray, List.set_cons_zero, List.set_cons_succ])
    refine wpAnyH_take (i := 15) (v := undef) (by rw [List.getElem?_toArray]; rfl) (by kernel_rfl) (by kernel_rfl) (by kernel_rfl) (by intro _ _ _ h; exact h) (Or.inr ⟨by rfl, rfl⟩) (by assumption) ?_
    (try simp only [Act.put, List.setIfInBounds_toArray, List.set_cons_zero, List.set_cons_succ])
    refine wpAnyH_take (i := 16) (v := undef) (by rw [List.getElem?_toArray]; rfl) (by kernel_rfl) (by kernel_rfl) (by kernel_rfl) (by intro _ _ _ h; exact h) (Or.inr ⟨by rfl, rfl⟩) (by assumption) ?_
    (try simp only [Act.put, List.setIfInBounds_toArray, List.set_cons_zero, List.set_cons_succ])
    refine wpAnyH_take (i := 17) (v := undef) (by rw [List.getElem?_toArray]; rfl) (by kernel_rfl) (by kernel_rfl) (by kernel_rfl) (by intro _ _ _ h; exact h) (Or.inr ⟨by rfl, rfl⟩) (by assumption) ?_
    (try simp only [Act.put, List.setIfInBounds_toArray, List.set_cons_zero, List.set_cons_succ])
    refine wpAnyH_take (i := 18) (v := undef) (by rw [List.getElem?_toArray]; rfl) (by kernel_rfl) (by kernel_rfl) (by kernel_rfl) (by intro _ _ _ h; exact h) (Or.inr ⟨by rfl, rfl⟩) (by assumption) ?_
    (try simp only [Act.put, List.setIfInBounds_toArray, List.set_cons_zero, List.set_cons_succ])
    refine wpAnyH_take (i := 19) (v := undef) (by rw [List.getElem?_toArray]; rfl) (by kernel_rfl) (by kernel_rfl) (by kernel_rfl) (by intro _ _ _ h; exact h) (Or.inr ⟨by rfl, rfl⟩) (by assumption) ?_
    (try simp only [Act.put, List.setIfInBounds_toArray, List.set_cons_zero, List.set_cons_succ])
    refine wpAnyH_take (i := 20) (v := undef) (by rw [List.getElem?_toArray]; rfl) (by kernel_rfl) (by kernel_rfl) (by kernel_rfl) (by intro _ _ _ h; exact h) (Or.inr ⟨by rfl, rfl⟩) (by assumption) ?_
    (try simp only [Act.put, List.setIfInBounds_toArray, List.set_cons_zero, List.set_cons_succ])
    refine wpAnyH_take (i := 21) (v := undef) (by rw [List.getElem?_toArray]; rfl) (by kernel_rfl) (by kernel_rfl) (by kernel_rfl) (by intro _ _ _ h; exact h) (Or.inr ⟨by rfl, rfl⟩) (by assumption) ?_
    (try simp only [Act.put, List.setIfInBounds_toArray, List.set_cons_zero, List.set_cons_succ])
    refine wpAnyH_take (i := 22) (v := undef) (by rw [List.getElem?_toArray]; rfl) (by kernel_rfl) (by kernel_rfl) (by kernel_rfl) (by intro _ _ _ h; exact h) (Or.inr ⟨by rfl, rfl⟩) (by assumption) ?_
    (try simp only [Act.put, List.setIfInBounds_toArray, List.set_cons_zero, List.set_cons_succ])
    refine wpAnyH_take (i := 23) (v := undef) (by rw [List.getElem?_toArray]; rfl) (by kernel_rfl) (by kernel_rfl) (by kernel_rfl) (by intro _ _ _ h; exact h) (Or.inr ⟨by rfl, rfl⟩) (by assumption) ?_
    (try simp only [Act.put, List.setIfInBounds_toArray, List.set_cons_zero, List.set_cons_succ])
    refine wpAnyH_take (i := 24) (v := ?_) (by rw [List.getElem?_toArray]; rfl) (by kernel_rfl) (by kernel_rfl) (by kernel_rfl) (by intro _ _ _ h; exact h) (Or.inl ⟨by rfl, ?_⟩) (by assumption) ?_
    rotate_left
    · (intro w hSw; (try dsimp only at hSw); go_simp; all_goals with_reducible rfl)
    (try simp only [Act.put, List.setIfInBounds_toArray, List.set_cons_zero, List.set_cons_succ])
    refine wpAnyH_take (i := 25) (v := ?_) (by rw [List.getElem?_toArray]; rfl) (by kernel_rfl) (by kernel_rfl) (by kernel_rfl) (by intro _ _ _ h; exact h) (Or.inl ⟨by rfl, ?_⟩) (by assumption) ?_
    rotate_left
    · (intro w hSw; (try dsimp only at hSw); go_simp; all_goals with_reducible rfl)
    (try simp only [Act.put, List.setIfInBounds_toArray, List.set_cons_zero, List.set_cons_succ])
    refine wpAnyH_done (by kernel_rfl) ?_ _
    replace B := B.trans (XB.mono B.size)
    clear SK XB N P
    (try go_wp2_with fail)
    first | (go_ret; exact ⟨rfl, B⟩) | exact bodyPost_ret (v := (.bool false)) (by simp (maxDischargeDepth := 6) [results, Tryd.results46, go_sem, *]) rfl ⟨rfl, B⟩
end Go.Proofs.YtdahabbdhjgpdaaDoor
namespace Go.Proofs.YtdahabbdhjgpdaaDoor
open Go.RowKit
set_option linter.unusedVariables false
/- A copy between rows whose elements have two cells. -/
theorem run_copy2 {P : Program} (w : World) (dT sT ty elem : TypeId) (g o dLen dCap : Nat) (a : Addr) (sLen sCap : Nat) (cur : Array Value) (t : TypeId) (cs : List Value)
    (hu : P.underlying dT = some (.slice elem)) (hs : (P.info? elem).map (·.size) = some 2)
    (hg : w.heap[g]? = some (.cells cur t (0, 0))) (k : Nat) (hk : Nat.min sLen dLen = k) (hn : cs.length = k * 2)
    (hsrc : ∀ j v, cs[j]? = some v → w.cell? (a.add j) = some v) (hfit : o + cs.length ≤ cur.size) (h1 : ∀ v ∈ cs, v.oneCell' = true) :
    (Builtin.copy_ #[dT, sT] ty #[.slice (some ⟨g, o, none⟩) dLen dCap, .slice (some a) sLen sCap]).run P w =
      .ok (goInt k) (w.setRow g (cur.toList.take o ++ cs ++ cur.toList.drop (o + cs.length)).toArray) := by
  have hl := run_loadCells_list (P := P) w a cs hsrc
  have hst := run_storeCells_at P g o t cs 0 cur w hg (by simpa using hfit) h1
  cases hq : P.info? elem with
  | none => simp [hq] at hs
  | some i =>
    have hi : i.size = 2 := by simpa [hq] using hs
    simp [Builtin.copy_, run_underlying hu, Builtin.lenOf, Builtin.firstCells, sizeOf, typeInfo, hq, hi, hk, ← hn, hl, hst]
/- What the cells of a row come to when two are put in. -/
theorem ins_room {c xs vs : List Value} {i n : Nat} (hx : c.take (n * 2) = xs) (hl : xs.length = n * 2) (hv : vs.length = 2) (hi : i < n) (hc : (n + 1) * 2 ≤ c.length) :
    ((c.take ((i + 1) * 2) ++ xs.drop (i * 2) ++ c.drop ((i + 1) * 2 + (xs.drop (i * 2)).length)).take (i * 2) ++ vs ++ (c.take ((i + 1) * 2) ++ xs.drop (i * 2) ++ c.drop ((i + 1) * 2 + (xs.drop (i * 2)).length)).drop (i * 2 + vs.length)).take ((n + 1) * 2) = xs.take (i * 2) ++ (vs ++ xs.drop (i * 2)) := by
  have e1 : (c.take ((i + 1) * 2)).length = (i + 1) * 2 := by rw [List.length_take]; omega
  have e2 : c.take (i * 2) = xs.take (i * 2) := by rw [← hx, List.take_take]; congr 1; omega
  generalize hr : c.drop ((i + 1) * 2 + (xs.drop (i * 2)).length) = r
  have e3 : (c.take ((i + 1) * 2) ++ xs.drop (i * 2) ++ r).take (i * 2) = xs.take (i * 2) := by
    rw [List.append_assoc, List.take_append_of_le_length (by omega), List.take_take, ← e2]; congr 1; omega
  have e4 : (c.take ((i + 1) * 2) ++ xs.drop (i * 2) ++ r).drop (i * 2 + vs.length) = xs.drop (i * 2) ++ r := by
    rw [hv, List.append_assoc, show i * 2 + 2 = (c.take ((i + 1) * 2)).length by omega, List.drop_left]
  rw [e3, e4, ← List.append_assoc, List.take_append_of_le_length (by simp [hv, hl]; omega)]
  rw [List.append_assoc, List.take_of_length_le (by simp [hv, hl]; omega)]
theorem ins_grow {c xs vs : List Value} {i n : Nat} (hx : c.take (i * 2) = xs.take (i * 2)) (hl : xs.length = n * 2) (hv : vs.length = 2) (hi : i < n) (hc : (n + 1) * 2 ≤ c.length) :
    (((c.take (i * 2) ++ vs ++ c.drop (i * 2 + vs.length)).take ((i + 1) * 2)) ++ xs.drop (i * 2) ++ (c.take (i * 2) ++ vs ++ c.drop (i * 2 + vs.length)).drop ((i + 1) * 2 + (xs.drop (i * 2)).length)).take ((n + 1) * 2) = xs.take (i * 2) ++ (vs ++ xs.drop (i * 2)) := by
  have e0 : (xs.take (i * 2)).length = i * 2 := by rw [List.length_take]; omega
  have e1 : (c.take (i * 2) ++ vs ++ c.drop (i * 2 + vs.length)).take ((i + 1) * 2) = xs.take (i * 2) ++ vs := by
    rw [hx, show (i + 1) * 2 = (xs.take (i * 2) ++ vs).length by simp [hv]; omega, List.take_left]
  rw [e1]
  generalize (c.take (i * 2) ++ vs ++ c.drop (i * 2 + vs.length)).drop ((i + 1) * 2 + (xs.drop (i * 2)).length) = r
  rw [List.take_append_of_le_length (by simp [hv, hl]; omega), List.take_of_length_le (by simp [hv, hl]; omega), List.append_assoc]
theorem ins_size {c xs vs : List Value} {a b m : Nat} (hb : a + xs.length ≤ c.length) : (c.take a ++ xs ++ c.drop (a + xs.length)).length = c.length := by
  simp; omega
theorem wpList_append_run16 {P : Program} (w : World) {ops : Array Oper} {rest : List Oper} {o : Oper} {a : Act} {Q : Exit → Act → World → Prop} (hgd : o.guard = none) (s x : Operand) (t t' : TypeId)
    (ho : o.op = .call { callee := .builtin .append, args := #[s, x], argTypes := #[t, t'] }) (v u : Value) (hs : a.eval s = v) (hx : a.eval x = u) {v' : Value} {w' : World}
    (hr : (Builtin.append_ #[t, t'] o.type #[v, u]).run P w = .ok v' w') (h : wpList P ops Q rest (a.put o.dst v') w') : wpList P ops Q (o :: rest) a w := by
  refine wpList_plain hgd fun _ hK => ?_
  unfold Oper.wp execOp
  simp only [ho, resolve, invoke, builtin, Sem.run_bind, Sem.run_pure, Result.andThen_ok, List.map_toArray, List.map_cons, List.map_nil, hs, hx, hr]
  exact hK _ _ h
set_option maxRecDepth 100000 in
set_option maxHeartbeats 8000000 in
theorem insert_room (base g n c : Nat) (cur : Array Value) (xs : List Value) (i : Nat) (x0 x1 : Int) (jz : Nat) (w : World) (hg : w.heap[g]? = some (.cells cur 80 (0, 0))) (hb : base ≤ g) (hroom : n + 1 ≤ c) (hcm : c ≤ maxLen) (hcs : cur.size = c * 2) (hx : cur.toList.take (n * 2) = xs) (hl : xs.length = n * 2) (hi : i < n) (hn : n ≤ 16)
    (hJ : w.heap[jz]? = some (.cells #[.int .i64 x0, .int .i64 x1] 80 (0, 0))) (hne : jz ≠ g) (h1 : ∀ u ∈ xs, u.oneCell' = true) :
    Calls Tryd.prog 78 #[.slice (some ⟨g, 0, none⟩) n c, .int .i64 (i : Int), .slice (some ⟨jz, 0, none⟩) 1 1] w fun e w' => ∃ v', e = .returned v' ∧ w'.ownsRow base 80 2 v' (n + 1) (xs.take (i * 2) ++ ([Value.int .i64 x0, Value.int .i64 x1] ++ xs.drop (i * 2))) ∧ w.grownBy w' (some g) := by
  have hsz : (Tryd.prog.info? 80).map (·.size) = some 2 := by kernel_rfl
  unfold maxLen at hcm
  have hz2 : ¬ ((i : Int) = (n : Int)) := by omega
  have hdl : (xs.drop (i * 2)).length = (n - i) * 2 := by rw [List.length_drop, hl]; omega
  have cJ : ∀ (W : World), W.heap[jz]? = some (.cells #[.int .i64 x0, .int .i64 x1] 80 (0, 0)) → ∀ (j : Nat) (v : Value), [Value.int .i64 x0, Value.int .i64 x1][j]? = some v → W.cell? ((⟨jz, 0, none⟩ : Addr).add j) = some v := fun W hW j v hj => by
    rw [addr_add16, Nat.zero_add]
    match j, hj with
    | 0, hj => simp at hj; subst hj; simp [World.cell?, hW]
    | 1, hj => simp at hj; subst hj; simp [World.cell?, hW]
  have hov : ∀ lb cb, (callFunc 99 #[.slice (some ⟨jz, 0, none⟩) 1 1, .slice (some ⟨g, (i + 1) * 2, none⟩) lb cb]).run Tryd.prog w = .ok (.value (.bool false)) w := fun lb cb => by
    rw [run_callFunc_extern Tryd.func99 (by kernel_rfl) (by kernel_rfl) (by kernel_rfl) (e := Extern.SlicesOverlaps.overlaps #[24, 24] #[4]) (by kernel_rfl),
      Lib.run_overlaps_apart w 24 4 80 Tryd.underlying24 2 (fun w => by kernel_rfl) ⟨jz, 0, none⟩ ⟨g, (i + 1) * 2, none⟩ 1 1 lb cb hne 80 80 2 cur.size (by simp [World.shape?, hJ]) (by simp [World.shape?, hg]) (by omega) (by simp [World.frozen?, hJ]) (by simp [World.frozen?, hJ])]
    rfl
  have cG : ∀ (W : World), W.heap[g]? = some (.cells cur 80 (0, 0)) → ∀ (j : Nat) (v : Value), (xs.drop (i * 2))[j]? = some v → W.cell? ((⟨g, i * 2, none⟩ : Addr).add j) = some v := fun W hW j v hj => by
    rw [addr_add16]
    rw [List.getElem?_drop, ← hx, List.getElem?_take] at hj
    split at hj
    · simp only [World.cell?, hW]; simpa using hj
    · cases hj
  have hcp1 : ∀ ty dc sc, (Builtin.copy_ #[24, 24] ty #[.slice (some ⟨g, (i + 1) * 2, none⟩) (n - i) dc, .slice (some ⟨g, i * 2, none⟩) (n + 1 - i) sc]).run Tryd.prog w.drew = .ok (goInt ((n - i : Nat) : Int)) (w.drew.setRow g (cur.toList.take ((i + 1) * 2) ++ xs.drop (i * 2) ++ cur.toList.drop ((i + 1) * 2 + (xs.drop (i * 2)).length)).toArray) := fun ty dc sc =>
    run_copy2 w.drew 24 24 ty 80 g ((i + 1) * 2) (n - i) dc ⟨g, i * 2, none⟩ (n + 1 - i) sc cur 80 (xs.drop (i * 2)) Tryd.underlying24 hsz hg (n - i) (by simp only [Nat.min_def]; split <;> omega) hdl (cG w.drew hg) (by rw [hdl, hcs]; omega) (fun v hv => h1 v (List.mem_of_mem_drop hv))
  obtain ⟨c1, hc1⟩ : ∃ c1, c1 = (cur.toList.take ((i + 1) * 2) ++ xs.drop (i * 2) ++ cur.toList.drop ((i + 1) * 2 + (xs.drop (i * 2)).length)) := ⟨_, rfl⟩
  have hc1l : c1.length = c * 2 := by rw [hc1, ins_size (b := 0) (m := 0) (vs := []) (by rw [hdl, Array.length_toList, hcs]; omega), Array.length_toList, hcs]
  rw [← hc1] at hcp1
  have hg1 : (w.drew.setRow g c1.toArray).heap[g]? = some (.cells c1.toArray 80 (0, 0)) := setRow_heap w.drew g cur _ 80 _ hg
  have hJ1 : (w.drew.setRow g c1.toArray).heap[jz]? = some (.cells #[.int .i64 x0, .int .i64 x1] 80 (0, 0)) := by rw [setRow_other w.drew g jz _ hne]; exact hJ
  have hcp2 : ∀ ty dc, (Builtin.copy_ #[24, 24] ty #[.slice (some ⟨g, i * 2, none⟩) (n + 1 - i) dc, .slice (some ⟨jz, 0, none⟩) 1 1]).run Tryd.prog (w.drew.setRow g c1.toArray) = .ok (goInt 1) ((w.drew.setRow g c1.toArray).setRow g (c1.take (i * 2) ++ [Value.int .i64 x0, Value.int .i64 x1] ++ c1.drop (i * 2 + 2)).toArray) := fun ty dc =>
    run_copy2 (w.drew.setRow g c1.toArray) 24 24 ty 80 g (i * 2) (n + 1 - i) dc ⟨jz, 0, none⟩ 1 1 c1.toArray 80 [Value.int .i64 x0, Value.int .i64 x1] Tryd.underlying24 hsz hg1 1 (by simp only [Nat.min_def]; split <;> omega) rfl (cJ _ hJ1) (by simp [hc1l]; omega) (by intro u hu; simp at hu; rcases hu with rfl | rfl <;> rfl)
  have HE : Hid (((w.drew.setRow g c1.toArray).setRow g (c1.take (i * 2) ++ [Value.int .i64 x0, Value.int .i64 x1] ++ c1.drop (i * 2 + 2)).toArray).ownsRow base 80 2 (.slice (some ⟨g, 0, none⟩) (n + 1) c) (n + 1) (xs.take (i * 2) ++ ([Value.int .i64 x0, Value.int .i64 x1] ++ xs.drop (i * 2))) ∧ w.grownBy ((w.drew.setRow g c1.toArray).setRow g (c1.take (i * 2) ++ [Value.int .i64 x0, Value.int .i64 x1] ++ c1.drop (i * 2 + 2)).toArray) (some g)) := by
    refine ⟨⟨by simp [hl]; omega, .inr ⟨g, c, _, rfl, hb, setRow_heap _ g c1.toArray _ 80 _ hg1, hroom, hcm, ?_, ?_⟩⟩, ⟨rfl, rfl, rfl, by simp, fun k _ hk => ?_⟩⟩
    · have := ins_size (c := c1) (xs := [Value.int .i64 x0, Value.int .i64 x1]) (a := i * 2) (b := 0) (m := 0) (vs := []) (by simp [hc1l]; omega)
      simp only [List.length_cons, List.length_nil] at this
      simpa [hc1l] using this
    · have := ins_room (c := cur.toList) (vs := [Value.int .i64 x0, Value.int .i64 x1]) hx hl rfl hi (by rw [Array.length_toList, hcs]; omega)
      rw [← hc1] at this
      simpa using this
    · have hkg : k ≠ g := fun e => hk (by rw [e])
      rw [setRow_other _ g k _ hkg, setRow_other _ g k _ hkg]
      rfl
  generalize ((w.drew.setRow g c1.toArray).setRow g (c1.take (i * 2) ++ [Value.int .i64 x0, Value.int .i64 x1] ++ c1.drop (i * 2 + 2)).toArray) = W2 at *
  generalize w.drew.setRow g c1.toArray = W1 at *
  have hb1 : (i + 1 : Nat) ≤ n + 1 := by omega
  have hb2 : ¬ (c = i + 1) := by omega
  have hb4 : ¬ (c = i) := by omega
  have hi1 : (i : Int) ≤ (n : Int) := by omega
  clear cJ cG hJ hJ1 hg hg1 hc1 hc1l hdl hx hl h1 hcs
  go_enter Tryd.func78, Tryd.ntmps78
  go_wp2_with (simp only [hov])
  have hq1 := hcp1 3 (c - (i + 1)) (c - i)
  have hq2 := hcp2 3 (c - i)
  clear hcp1 hcp2
  go_region
  go_wp2_with fail
  go_ret
  exact ⟨_, rfl, by simpa using HE.out.1, HE.out.2⟩
set_option maxRecDepth 100000 in
set_option maxHeartbeats 8000000 in
theorem insert_grow (base g n : Nat) (cur : Array Value) (xs : List Value) (i : Nat) (x0 x1 : Int) (jz : Nat) (w : World) (hg : w.heap[g]? = some (.cells cur 80 (0, 0))) (hcs : cur.size = n * 2) (hx : cur.toList.take (n * 2) = xs) (hl : xs.length = n * 2) (hi : i < n) (hn : n ≤ 16)
    (hJ : w.heap[jz]? = some (.cells #[.int .i64 x0, .int .i64 x1] 80 (0, 0))) (h1 : ∀ u ∈ xs, u.oneCell' = true) (hbase : base ≤ w.heap.size) :
    Calls Tryd.prog 78 #[.slice (some ⟨g, 0, none⟩) n n, .int .i64 (i : Int), .slice (some ⟨jz, 0, none⟩) 1 1] w fun e w' => ∃ v', e = .returned v' ∧ w'.ownsRow base 80 2 v' (n + 1) (xs.take (i * 2) ++ ([Value.int .i64 x0, Value.int .i64 x1] ++ xs.drop (i * 2))) ∧ w.grownBy w' (some g) := by
  have hsz : (Tryd.prog.info? 80).map (·.size) = some 2 := by kernel_rfl
  obtain ⟨i0, hi0, hz0, hz1, hz2'⟩ := info_parts info_heard
  have hz2 : ¬ ((i : Int) = (n : Int)) := by omega
  have hdl : (xs.drop (i * 2)).length = (n - i) * 2 := by rw [List.length_drop, hl]; omega
  have htl : (xs.take (i * 2)).length = i * 2 := by rw [List.length_take, hl]; omega
  have cJ : ∀ (W : World), W.heap[jz]? = some (.cells #[.int .i64 x0, .int .i64 x1] 80 (0, 0)) → ∀ (j : Nat) (v : Value), [Value.int .i64 x0, Value.int .i64 x1][j]? = some v → W.cell? ((⟨jz, 0, none⟩ : Addr).add j) = some v := fun W hW j v hj => by
    rw [addr_add16, Nat.zero_add]
    match j, hj with
    | 0, hj => simp at hj; subst hj; simp [World.cell?, hW]
    | 1, hj => simp at hj; subst hj; simp [World.cell?, hW]
  have cG : ∀ (W : World), W.heap[g]? = some (.cells cur 80 (0, 0)) → ∀ (j : Nat) (v : Value), (xs.drop (i * 2))[j]? = some v → W.cell? ((⟨g, i * 2, none⟩ : Addr).add j) = some v := fun W hW j v hj => by
    rw [addr_add16]
    rw [List.getElem?_drop, ← hx, List.getElem?_take] at hj
    split at hj
    · simp only [World.cell?, hW]; simpa using hj
    · cases hj
  have hold : (Builtin.firstCells i0.size i (.slice (some ⟨g, 0, none⟩) i n)).run Tryd.prog w.drew = .ok (xs.take (i * 2)).toArray w.drew :=
    run_firstCells_some (P := Tryd.prog) w.drew i0.size i ⟨g, 0, none⟩ i n (xs.take (i * 2)) (by rw [htl, hz1]) (fun j v hj => by
      rw [addr_add16, Nat.zero_add]
      rw [List.getElem?_take] at hj
      split at hj
      · rw [← hx, List.getElem?_take] at hj
        split at hj
        · have hg' : w.drew.heap[g]? = some (.cells cur 80 (0, 0)) := hg
          simp only [World.cell?, hg']; simpa using hj
        · cases hj
      · cases hj)
  have hsum : i + (n + 1 - i) = n + 1 := by omega
  have hap : ∀ ty, (Builtin.append_ #[24, 3] ty #[.slice (some ⟨g, 0, none⟩) i n, .int .i64 ((n : Int) + 1 - (i : Int))]).run Tryd.prog w =
      .ok (.slice (some ⟨w.heap.size, 0, none⟩) (n + 1) (grownCap w (n + 1) n 80)) (w.drew.alloc (.cells ((xs.take (i * 2)).toArray ++ Builtin.zeroCells #[.int .i64 0, .int .i64 0] (n + 1 - i) ++ Builtin.zeroCells #[.int .i64 0, .int .i64 0] (grownCap w (n + 1) n 80 - (n + 1))) 80)) := fun ty => by
    have h := Lib.run_append_grow_zeros w 24 3 ty 80 i0 (.agg #[.int .i64 0, .int .i64 0]) .i64 .i64 Tryd.underlying24 Tryd.underlying3 hi0 hz0 (some ⟨g, 0, none⟩) i n (xs.take (i * 2)) hold (n + 1 - i) (by omega) (by rw [hz1]; decide) (by omega) (by omega) (by rw [hz2']; omega)
      (by rw [hsum, hz2']; exact growslice_fits (by omega) (by omega))
    rw [hsum] at h
    rw [show (n : Int) + 1 - (i : Int) = ((n + 1 - i : Nat) : Int) by omega]
    exact h
  have hG1 := grownCap_ge w (n + 1) n 80
  have hG2 : grownCap w (n + 1) n 80 ≤ maxLen := grownCap_le_maxLen w (n + 1) n 80 (by unfold maxLen; omega)
  generalize grownCap w (n + 1) n 80 = G at *
  obtain ⟨N, hN⟩ : ∃ N, N = (xs.take (i * 2)).toArray ++ Builtin.zeroCells #[.int .i64 0, .int .i64 0] (n + 1 - i) ++ Builtin.zeroCells #[.int .i64 0, .int .i64 0] (G - (n + 1)) := ⟨_, rfl⟩
  have hNs : N.size = G * 2 := by rw [hN]; simp only [Array.size_append, List.size_toArray, size_zeroCells, htl]; simp; omega
  have hNt : N.toList.take (i * 2) = xs.take (i * 2) := by rw [hN]; simp only [Array.toList_append, List.append_assoc]; rw [List.take_append_of_le_length (by rw [htl]; exact Nat.le_refl _), List.take_of_length_le (by rw [htl]; exact Nat.le_refl _)]
  rw [← hN] at hap
  have gl : g < w.heap.size := (Array.getElem?_eq_some_iff.1 hg).1
  have jl : jz < w.heap.size := (Array.getElem?_eq_some_iff.1 hJ).1
  obtain ⟨z, hz⟩ : ∃ z, z = w.heap.size := ⟨_, rfl⟩
  obtain ⟨W0, hW0⟩ : ∃ W0, W0 = w.drew.alloc (.cells N 80) := ⟨_, rfl⟩
  have b0 : W0.heap[z]? = some (.cells N 80 (0, 0)) := by rw [hW0, hz]; exact heap_alloc_new w.drew _
  have g0 : W0.heap[g]? = some (.cells cur 80 (0, 0)) := by rw [hW0, heap_alloc_old w.drew _ gl]; exact hg
  have j0 : W0.heap[jz]? = some (.cells #[.int .i64 x0, .int .i64 x1] 80 (0, 0)) := by rw [hW0, heap_alloc_old w.drew _ jl]; exact hJ
  have G0 : w.grownBy W0 (some g) := by rw [hW0]; exact ⟨rfl, rfl, rfl, by simp, fun k hk _ => heap_alloc_old w.drew _ hk⟩
  rw [← hW0, ← hz] at hap
  have hcp1 : ∀ ty dc, (Builtin.copy_ #[24, 24] ty #[.slice (some ⟨z, i * 2, none⟩) (n + 1 - i) dc, .slice (some ⟨jz, 0, none⟩) 1 1]).run Tryd.prog W0 = .ok (goInt 1) (W0.setRow z (N.toList.take (i * 2) ++ [Value.int .i64 x0, Value.int .i64 x1] ++ N.toList.drop (i * 2 + 2)).toArray) := fun ty dc =>
    run_copy2 W0 24 24 ty 80 z (i * 2) (n + 1 - i) dc ⟨jz, 0, none⟩ 1 1 N 80 [Value.int .i64 x0, Value.int .i64 x1] Tryd.underlying24 hsz b0 1 (by simp only [Nat.min_def]; split <;> omega) rfl (cJ _ j0) (by simp [hNs]; omega) (by intro u hu; simp at hu; rcases hu with rfl | rfl <;> rfl)
  obtain ⟨c1, hc1⟩ : ∃ c1, c1 = N.toList.take (i * 2) ++ [Value.int .i64 x0, Value.int .i64 x1] ++ N.toList.drop (i * 2 + 2) := ⟨_, rfl⟩
  rw [← hc1] at hcp1
  have hc1l : c1.length = G * 2 := by
    have := ins_size (c := N.toList) (xs := [Value.int .i64 x0, Value.int .i64 x1]) (a := i * 2) (b := 0) (m := 0) (vs := []) (by simp [hNs]; omega)
    simp only [List.length_cons, List.length_nil, Array.length_toList, hNs] at this
    rw [hc1]; simpa using this
  obtain ⟨W1, hW1⟩ : ∃ W1, W1 = W0.setRow z c1.toArray := ⟨_, rfl⟩
  have b1 : W1.heap[z]? = some (.cells c1.toArray 80 (0, 0)) := by rw [hW1]; exact setRow_heap W0 z N _ 80 _ b0
  have g1 : W1.heap[g]? = some (.cells cur 80 (0, 0)) := by rw [hW1, setRow_other W0 z g _ (by omega)]; exact g0
  have G1 : w.grownBy W1 (some g) := by
    rw [hW1]
    exact ⟨G0.os, G0.tape, G0.output, by simpa using G0.size, fun k hk hne => by rw [setRow_other W0 z k _ (by omega)]; exact G0.block k hk hne⟩
  rw [← hW1] at hcp1
  have hcp2 : ∀ ty dc sc, (Builtin.copy_ #[24, 24] ty #[.slice (some ⟨z, (i + 1) * 2, none⟩) (n - i) dc, .slice (some ⟨g, i * 2, none⟩) (n - i) sc]).run Tryd.prog W1.drew = .ok (goInt ((n - i : Nat) : Int)) (W1.drew.setRow z (c1.take ((i + 1) * 2) ++ xs.drop (i * 2) ++ c1.drop ((i + 1) * 2 + (xs.drop (i * 2)).length)).toArray) := fun ty dc sc =>
    run_copy2 W1.drew 24 24 ty 80 z ((i + 1) * 2) (n - i) dc ⟨g, i * 2, none⟩ (n - i) sc c1.toArray 80 (xs.drop (i * 2)) Tryd.underlying24 hsz b1 (n - i) (by simp) hdl (cG W1.drew g1) (by simp only [hdl, List.size_toArray, hc1l]; omega) (fun v hv => h1 v (List.mem_of_mem_drop hv))
  obtain ⟨c2, hc2⟩ : ∃ c2, c2 = c1.take ((i + 1) * 2) ++ xs.drop (i * 2) ++ c1.drop ((i + 1) * 2 + (xs.drop (i * 2)).length) := ⟨_, rfl⟩
  rw [← hc2] at hcp2
  have hc2l : c2.length = G * 2 := by rw [hc2, ins_size (b := 0) (m := 0) (vs := []) (by rw [hdl, hc1l]; omega), hc1l]
  obtain ⟨W2, hW2⟩ : ∃ W2, W2 = W1.drew.setRow z c2.toArray := ⟨_, rfl⟩
  have HE : Hid (W2.ownsRow base 80 2 (.slice (some ⟨z, 0, none⟩) (n + 1) G) (n + 1) (xs.take (i * 2) ++ ([Value.int .i64 x0, Value.int .i64 x1] ++ xs.drop (i * 2))) ∧ w.grownBy W2 (some g)) := by
    rw [hW2]
    refine ⟨⟨by simp [hl]; omega, .inr ⟨z, G, _, rfl, by omega, setRow_heap W1.drew z c1.toArray _ 80 _ b1, hG1, hG2, by simpa using hc2l, ?_⟩⟩, ⟨G1.os, G1.tape, G1.output, by simpa using G1.size, fun k hk hne => by rw [setRow_other W1.drew z k _ (by omega)]; exact G1.block k hk hne⟩⟩
    have := ins_grow (c := N.toList) (vs := [Value.int .i64 x0, Value.int .i64 x1]) hNt hl rfl hi (by rw [Array.length_toList, hNs]; omega)
    simp only [List.length_cons, List.length_nil] at this
    rw [hc2, hc1]
    exact this
  rw [← hW2] at hcp2
  clear hz hW2 hc2l hc2 G1 g1 b1 hW1 hc1l hc1 G0 j0 g0 b0 hW0 gl jl hNt hNs hN hold cG cJ htl hdl hsz hi0 hz0 hz1 hz2' hg hcs hx hl hJ h1
  have hq1 := hcp1 3 (G - i)
  have hq2 := hcp2 3 (G - (i + 1)) (n - i)
  have hqa := hap 24
  clear hcp1 hcp2 hap
  unfold maxLen at hG2
  have hb1 : (i + 1 : Nat) ≤ n + 1 := by omega
  have hb2 : ¬ (G = i + 1) := by omega
  have hb4 : ¬ (G = i) := by omega
  have hb5 : ¬ (n = i) := by omega
  have hi1 : (i : Int) ≤ (n : Int) := by omega
  go_enter Tryd.func78, Tryd.ntmps78
  go_wp2_with (at_builtin; refine wpList_append_run16 _ rfl _ _ 24 3 rfl _ _ rfl rfl hqa ?_)
  go_region
  go_wp2_with fail
  go_ret
  exact ⟨_, rfl, by simpa using HE.out.1, HE.out.2⟩
theorem insert_any (base : Nat) (v : Value) (n : Nat) (xs : List Value) (i : Nat) (x0 x1 : Int) (jz : Nat) (w : World) (OW : w.ownsRow base 80 2 v n xs) (hi : i < n) (hn : n ≤ 16)
    (hJ : w.heap[jz]? = some (.cells #[.int .i64 x0, .int .i64 x1] 80 (0, 0))) (hne : v.ownBlock ≠ some jz) (h1 : ∀ u ∈ xs, u.oneCell' = true) (hbase : base ≤ w.heap.size) :
    Calls Tryd.prog 78 #[v, .int .i64 (i : Int), .slice (some ⟨jz, 0, none⟩) 1 1] w fun e w' => ∃ v', e = .returned v' ∧ w'.ownsRow base 80 2 v' (n + 1) (xs.take (i * 2) ++ ([Value.int .i64 x0, Value.int .i64 x1] ++ xs.drop (i * 2))) ∧ w.grownBy w' v.ownBlock := by
  rcases OW.2 with ⟨_, h0⟩ | ⟨g, cap, cur, rfl, hb, hg, hnc, hcm, hcs, ht⟩
  · omega
  have hl : xs.length = n * 2 := OW.1
  by_cases hroom : n + 1 ≤ cap
  · exact insert_room base g n cap cur xs i x0 x1 jz w hg hb hroom hcm hcs ht hl hi hn hJ (fun e => hne (by rw [e]; rfl)) h1
  · obtain rfl : cap = n := by omega
    exact insert_grow base g cap cur xs i x0 x1 jz w hg hcs ht hl hi hn hJ h1 hbase
end Go.Proofs.YtdahabbdhjgpdaaDoor
namespace Go.Proofs.YtdahabbdhjgpdaaDoor
open Go.RowKit
set_option linter.unusedVariables false
/- Rows of pairs: joined, taken, dropped, one changed. -/
theorem vrow_len (L : List VT) : (vrow L).length = L.length * 2 := by unfold vrow; simp
theorem vrow_one (p : VT) : vrow [p] = [Value.int .i64 p.1, Value.int .i64 p.2] := by
  have h := vrow_snoc [] p
  simpa [vrow] using h
theorem vrow_app : ∀ (B A : List VT), vrow (A ++ B) = vrow A ++ vrow B
  | [], A => by simp [vrow]
  | p :: B, A => by
    have h1 := vrow_app B (A ++ [p])
    have h2 := vrow_app B [p]
    rw [vrow_snoc, List.append_assoc, List.append_assoc] at h1
    rw [show p :: B = [p] ++ B from rfl, h1, h2, vrow_one]
theorem vrow_take (L : List VT) (i : Nat) (hi : i ≤ L.length) : (vrow L).take (i * 2) = vrow (L.take i) := by
  have h : vrow L = vrow (L.take i) ++ vrow (L.drop i) := by rw [← vrow_app, List.take_append_drop]
  rw [h]
  have e : (vrow (L.take i)).length = i * 2 := by rw [vrow_len, List.length_take]; omega
  rw [← e, List.take_left]
theorem vrow_drop (L : List VT) (i : Nat) (hi : i ≤ L.length) : (vrow L).drop (i * 2) = vrow (L.drop i) := by
  have h : vrow L = vrow (L.take i) ++ vrow (L.drop i) := by rw [← vrow_app, List.take_append_drop]
  rw [h]
  have e : (vrow (L.take i)).length = i * 2 := by rw [vrow_len, List.length_take]; omega
  rw [← e, List.drop_left]
theorem vrow_put (L : List VT) (i : Nat) (hi : i ≤ L.length) (x0 x1 : Int) : (vrow L).take (i * 2) ++ ([Value.int .i64 x0, Value.int .i64 x1] ++ (vrow L).drop (i * 2)) = vrow (L.take i ++ (x0, x1) :: L.drop i) := by
  rw [vrow_take L i hi, vrow_drop L i hi, vrow_app, show (x0, x1) :: L.drop i = [(x0, x1)] ++ L.drop i from rfl, vrow_app, vrow_one]
theorem vrow_oneC (L : List VT) : ∀ u ∈ vrow L, u.oneCell' = true := by
  intro u hu
  unfold vrow at hu
  exact hrow_one (gV L) L.length u hu
/- What stands behind one that is heard. -/
theorem lsV_snoc (M : Nat → VT) (k : Nat) : lsV M (k + 1) = lsV M k ++ [M k] := by unfold lsV; rw [List.range_succ, List.map_append]; rfl
theorem hp_low {M : Nat → VT} {sl c : Int} : ∀ {k : Nat}, (∀ j, j < k → (M j).1 < sl) → hpS M sl c k = (false, lsV M k)
  | 0, _ => rfl
  | k + 1, h => by
    have h1 := hp_low (c := c) (k := k) fun j hj => h j (by omega)
    have h2 := h k (by omega)
    rw [hpS, h1, lsV_snoc]
    simp only [Bool.false_or, Bool.not_false, Bool.true_and]
    rw [decide_eq_false (show ¬ sl ≤ (M k).1 by omega), decide_eq_false (show ¬ (M k).1 = sl by omega)]
    simp
theorem hp_end {M : Nat → VT} {sl c : Int} {n : Nat} (h : ∀ j, j < n → (M j).1 < sl) : hpL M n sl c = lsV M n ++ [(sl, c)] := by
  unfold hpL
  rw [hp_low h]
theorem hp_high {M : Nat → VT} {sl c : Int} {T : List VT} {i : Nat} (hT : hpS M sl c (i + 1) = (true, T ++ (lsV M (i + 1)).drop (i + 1))) : ∀ {k : Nat}, i + 1 ≤ k → (∀ j, i < j → j < k → sl < (M j).1) → hpS M sl c k = (true, T ++ (lsV M k).drop (i + 1))
  | 0, h, _ => by omega
  | k + 1, h, ha => by
    by_cases e : i = k
    · subst e; exact hT
    · have h1 := hp_high hT (k := k) (by omega) fun j h1 h2 => ha j h1 (by omega)
      have h2 := ha k (by omega) (by omega)
      rw [hpS, h1, lsV_snoc, List.drop_append_of_le_length (by rw [lsV_len]; omega)]
      simp only [Bool.true_or, Bool.not_true, Bool.false_and]
      rw [decide_eq_false (show ¬ (M k).1 = sl by omega)]
      simp
theorem hp_eq {M : Nat → VT} {sl c : Int} {n i : Nat} (hi : i < n) (h : ∀ j, j < i → (M j).1 < sl) (he : (M i).1 = sl) (ha : ∀ j, i < j → j < n → sl < (M j).1) : hpL M n sl c = (lsV M n).set i (sl, c) := by
  have h1 : hpS M sl c (i + 1) = (true, (lsV M i ++ [(sl, c)]) ++ (lsV M (i + 1)).drop (i + 1)) := by
    rw [hpS, hp_low h, List.drop_of_length_le (by rw [lsV_len]; omega)]
    simp only [Bool.false_or, Bool.not_false, Bool.true_and]
    rw [decide_eq_true (show sl ≤ (M i).1 by omega), decide_eq_true he]
  unfold hpL
  rw [hp_high h1 (k := n) hi ha]
  simp only [List.append_nil]
  have e : lsV M i = (lsV M n).take i := by
    unfold lsV
    rw [← List.map_take, List.take_range]
    congr 2; omega
  rw [e, List.set_eq_take_append_cons_drop, if_pos (by rw [lsV_len]; exact hi), List.append_assoc]
  rfl
theorem hp_gt {M : Nat → VT} {sl c : Int} {n i : Nat} (hi : i < n) (h : ∀ j, j < i → (M j).1 < sl) (he : sl < (M i).1) (ha : ∀ j, i < j → j < n → sl < (M j).1) : hpL M n sl c = (lsV M n).take i ++ (sl, c) :: (lsV M n).drop i := by
  have h1 : hpS M sl c (i + 1) = (true, (lsV M i ++ [(sl, c)] ++ [M i]) ++ (lsV M (i + 1)).drop (i + 1)) := by
    rw [hpS, hp_low h, List.drop_of_length_le (by rw [lsV_len]; omega)]
    simp only [Bool.false_or, Bool.not_false, Bool.true_and]
    rw [decide_eq_true (show sl ≤ (M i).1 by omega), decide_eq_false (show ¬ (M i).1 = sl by omega)]
    simp
  unfold hpL
  rw [hp_high h1 (k := n) hi ha]
  simp only [List.append_nil]
  have e : lsV M i = (lsV M n).take i := by
    unfold lsV
    rw [← List.map_take, List.take_range]
    congr 2; omega
  have e2 : (lsV M n).drop i = M i :: (lsV M n).drop (i + 1) := by
    rw [List.drop_eq_getElem_cons (by rw [lsV_len]; exact hi)]
    congr 1
    unfold lsV; simp
  rw [e, e2]
  simp
/- One of a row of one's own, changed. -/
theorem own_set2 {w : World} {base g n cap : Nat} {L : List VT} (h : w.ownsRow base 80 2 (.slice (some ⟨g, 0, none⟩) n cap) n (vrow L)) {i : Nat} (hi : i < n) (x0 x1 : Int) :
    ((w.setCell ⟨g, i * 2, none⟩ (.int .i64 x0)).setCell ⟨g, i * 2 + 1, none⟩ (.int .i64 x1)).ownsRow base 80 2 (.slice (some ⟨g, 0, none⟩) n cap) n (vrow (L.set i (x0, x1))) := by
  have hn : L.length = n := by have := h.1; rw [vrow_len] at this; omega
  rcases h.2 with ⟨q, _⟩ | ⟨g', cap', cur, he, hb, hg, hnc, hc, hs, ht⟩
  · simp at q
  simp at he
  obtain ⟨rfl, rfl⟩ := he
  have h1 : (w.setCell ⟨g, i * 2, none⟩ (.int .i64 x0)).heap[g]? = some (.cells (cur.setIfInBounds (i * 2) (.int .i64 x0)) 80 (0, 0)) := by
    rw [setCell_eq_setRow w g (i * 2) cur 80 (0, 0) _ hg]; exact setRow_heap w g cur _ 80 _ hg
  have h2 : ((w.setCell ⟨g, i * 2, none⟩ (.int .i64 x0)).setCell ⟨g, i * 2 + 1, none⟩ (.int .i64 x1)).heap[g]? = some (.cells ((cur.setIfInBounds (i * 2) (.int .i64 x0)).setIfInBounds (i * 2 + 1) (.int .i64 x1)) 80 (0, 0)) := by
    rw [setCell_eq_setRow _ g (i * 2 + 1) _ 80 (0, 0) _ h1]; exact setRow_heap _ g _ _ 80 _ h1
  refine ⟨by rw [vrow_len, List.length_set, hn], .inr ⟨g, cap, _, rfl, hb, h2, hnc, hc, by simp [hs], ?_⟩⟩
  rw [List.set_eq_take_append_cons_drop, if_pos (by omega), show (x0, x1) :: L.drop (i + 1) = [(x0, x1)] ++ L.drop (i + 1) from rfl, vrow_app, vrow_app, vrow_one, ← vrow_take L i (by omega), ← vrow_drop L (i + 1) (by omega), ← ht]
  apply List.ext_getElem?
  intro j
  simp only [Array.toList_setIfInBounds, List.getElem?_take, List.getElem?_append, List.getElem?_set, List.length_take, List.length_set, List.getElem?_drop, Array.length_toList, List.length_cons, List.length_nil, hs]
  have k1 : min (i * 2) (min (n * 2) (cap * 2)) = i * 2 := by omega
  rw [k1]
  by_cases a1 : j < i * 2
  · rw [if_pos a1, if_pos (show j < n * 2 by omega), if_pos a1, if_neg (show ¬ i * 2 + 1 = j by omega), if_neg (show ¬ i * 2 = j by omega)]
    rw [if_pos (show j < n * 2 by omega)]
  · rw [if_neg a1]
    by_cases a2 : j = i * 2
    · subst a2
      rw [if_pos (show i * 2 < n * 2 by omega), if_neg (show ¬ i * 2 + 1 = i * 2 by omega), if_pos rfl, if_pos (show i * 2 < cap * 2 by omega), Nat.sub_self, if_pos (by omega)]
      rfl
    · by_cases a3 : j = i * 2 + 1
      · subst a3
        rw [if_pos (show i * 2 + 1 < n * 2 by omega), if_pos rfl, if_pos (show i * 2 + 1 < cap * 2 by omega), show i * 2 + 1 - i * 2 = 1 by omega, if_pos (by omega)]
        rfl
      · rw [if_neg (show ¬ i * 2 + 1 = j by omega), if_neg (show ¬ i * 2 = j by omega), if_neg (show ¬ j - i * 2 < 0 + 1 + 1 by omega)]
        rw [show (i + 1) * 2 + (j - i * 2 - (0 + 1 + 1)) = j by omega]
end Go.Proofs.YtdahabbdhjgpdaaDoor
namespace Go.Proofs.YtdahabbdhjgpdaaDoor
open Go.RowKit
set_option linter.unusedVariables false
theorem own_el2 {w : World} {base g n cap : Nat} {L : List VT} (h : w.ownsRow base 80 2 (.slice (some ⟨g, 0, none⟩) n cap) n (vrow L)) {i : Nat} (hi : i < n) :
    g < w.heap.size ∧ w.cell? ⟨g, i * 2, none⟩ = some (.int .i64 (gV L i).1) ∧ w.cell? ⟨g, i * 2 + 1, none⟩ = some (.int .i64 (gV L i).2) ∧ w.frozen? ⟨g, i * 2, none⟩ = false ∧ w.frozen? ⟨g, i * 2 + 1, none⟩ = false := by
  have hn : L.length = n := by have := h.1; rw [vrow_len] at this; omega
  rcases h.2 with ⟨q, _⟩ | ⟨g', cap', cur, he, hb, hg, hnc, hc, hs, ht⟩
  · simp at q
  simp at he
  obtain ⟨rfl, rfl⟩ := he
  have hx : ∀ j, j < n * 2 → w.cell? ⟨g, j, none⟩ = some (MFIval (gV L) j) := fun j hj => by
    have e : (vrow L)[j]? = some (MFIval (gV L) j) := by unfold vrow; rw [List.getElem?_map, List.getElem?_range (by omega)]; rfl
    rw [← ht, List.getElem?_take, if_pos hj] at e
    simp only [World.cell?, hg]
    simpa using e
  refine ⟨(Array.getElem?_eq_some_iff.1 hg).1, ?_, ?_, by simp [World.frozen?, hg], by simp [World.frozen?, hg]⟩
  · rw [hx _ (by omega)]; unfold MFIval; rw [show i * 2 % 2 = 0 by omega, show i * 2 / 2 = i by omega]; rfl
  · rw [hx _ (by omega)]; unfold MFIval; rw [show (i * 2 + 1) % 2 = 1 by omega, show (i * 2 + 1) / 2 = i by omega]; rfl
set_option maxRecDepth 100000 in
set_option maxHeartbeats 8000000 in
theorem putHeard_any (a : Option Addr) (n c : Nat) (M : Nat → VT) (sl ct : Int) (w : World) (hH : hrA M n = true) (hn : n ≤ 16) (ha : (a = none ∧ n = 0 ∧ c = 0) ∨ ∃ b off, a = some ⟨b, off, none⟩ ∧ (n = 0 ∨ Cs w b off (n * 2) (MFIval M))) :
    Calls Tryd.prog 48 #[.slice a n c, .agg #[.int .i64 sl, .int .i64 ct]] w fun e w' => ∃ v, e = .returned v ∧ w'.ownsRow w.heap.size 80 2 v (hpL M n sl ct).length (vrow (hpL M n sl ct)) ∧ Below w.heap.size w w' := by
  have B := Below.nw w (.cells #[.int .i64 sl, .int .i64 ct] 80)
  have D := Bx2.new w (.int .i64 sl) (.int .i64 ct) 80
  have hj : w.heap.size + 1 ≤ (w.alloc (.cells #[.int .i64 sl, .int .i64 ct] 80)).heap.size := by simp
  have HH : Hid (hrA M n = true) := hH
  have C1 := clone16_any a n c M (w.alloc (.cells #[.int .i64 sl, .int .i64 ct] 80)) (by omega) (by
    rcases ha with q | ⟨b, off, e, hc⟩
    · exact .inl q
    · exact .inr ⟨b, off, e, hc.imp id fun h => h.below B h.1⟩)
  clear ha hH
  go_enter Tryd.func48, Tryd.ntmps48
  go_wp2_with fail
  refine C1.mono ?_
  clear C1
  rintro e v1 ⟨v', rfl, OW, hb⟩
  replace B := B.trans (hb.mono B.size)
  replace D := D.below hb
  replace hj := Nat.le_trans hj hb.size
  rw [← lsV_row] at OW
  replace OW : v1.ownsRow (w.heap.size + 1) 80 2 v' n (vrow (lsV M n)) := own_baseI16 OW (by simp)
  clear hb
  rcases id OW.2 with ⟨rfl, rfl⟩ | ⟨g, cap, cur, rfl, hbg, -, hnc, hcm, -, -⟩
  · have HV : Hid (hpL M 0 sl ct = [] ++ [(sl, ct)]) := hp_end fun j hj => by omega
    replace OW : v1.ownsRow (w.heap.size + 1) 80 2 (.slice none 0 0) ([] : List VT).length (vrow []) := nil_heard _ _
    go_wp2_with fail
    go_loopw [12] (fun i wr => i = .int .i64 0 ∧ wr = v1) (fun i _ => 0)
    case atStart => exact ⟨rfl, rfl⟩
    case round =>
      obtain ⟨rfl, rfl⟩ := hrel
      obtain ⟨d0, d1, d2, d3, d4⟩ := id D
      have hli : ¬ (0 : Int) < 0 := by omega
      have BJ := Below.refl (w.heap.size + 1) wr
      go_wp2_with (at_builtin; refine add_heard rfl _ _ rfl (w.heap.size + 1) [] _ rfl OW rfl (by simp) hj ?_; intro v2 w9 O9 hg9 hn9; (have BJ9 := BJ.trans (grown_belowK OW hg9 hj)))
      go_ret
      exact ⟨_, rfl, by rw [HV.out]; exact own_baseI16 O9 (Nat.le_succ _), B.trans (BJ9.mono (Nat.le_succ _))⟩
  have hbg' : w.heap.size ≤ g := by omega
  unfold maxLen at hcm
  go_wp2_with fail
  go_loopw [12] (fun i wr => ∃ (k : Nat), k ≤ n ∧ i = .int .i64 k ∧ (∀ j, j < k → (M j).1 < sl) ∧ Below w.heap.size w wr ∧ w.heap.size + 1 ≤ wr.heap.size ∧ Bx2 wr w.heap.size (.int .i64 sl) (.int .i64 ct) ∧ wr.ownsRow (w.heap.size + 1) 80 2 (.slice (some ⟨g, 0, none⟩) n cap) n (vrow (lsV M n))) (fun i _ => n - (intOf i).toNat)
  case atStart => exact ⟨0, Nat.zero_le _, rfl, fun j h => absurd h (Nat.not_lt_zero j), B, hj, D, OW⟩
  case round =>
    clear B D OW hj
    obtain ⟨k, hk, rfl, hlow, B, hj, D, OW⟩ := hrel
    have HL : Hid (∀ j, j < k → (M j).1 < sl) := hlow
    clear hlow
    by_cases hlt : k < n
    · obtain ⟨x0, x1, hM⟩ := tupIval M k
      have HM : Hid (M k = (x0, x1)) := hM
      have HLT : Hid (k < n) := hlt
      have hli : (k : Int) < (n : Int) := by omega
      obtain ⟨g0, c0, c1, f0, f1⟩ := own_el2 OW hlt
      rw [lsV_at hlt, hM] at c0 c1
      clear hM
      have A1 := Below.nw wr (.cells #[.int .i64 x0, .int .i64 x1] 80)
      have Z := Bx2.new wr (.int .i64 x0) (.int .i64 x1) 80
      replace OW := own_belK' OW A1
      replace D := D.below A1
      replace B := B.trans (A1.mono B.size)
      have hjo : w.heap.size + 1 ≤ wr.heap.size := hj
      replace hj := Nat.le_trans hj A1.size
      clear A1
      go_upto_region 5 with fail
      clear c0 c1 f0 f1 g0
      generalize wr.alloc (.cells #[.int .i64 x0, .int .i64 x1] 80) = v2 at *
      generalize wr.heap.size = jo at *
      obtain ⟨g0, c0, c1, f0, f1⟩ := own_el2 OW hlt
      by_cases q : x0 = sl
      · have qe : (x0 == sl) = true := by rw [q]; simp
        have HV : Hid (hpL M n sl ct = (lsV M n).set k (sl, ct)) := hp_eq hlt HL.out (by rw [HM.out]; exact q) fun j h1 h2 => by
          have := hr_asc HH.out h1 h2
          rw [HM.out] at this; omega
        have O2 := own_set2 OW hlt sl ct
        clear q
        obtain ⟨d0, d1, d2, d3, d4⟩ := id D
        obtain ⟨z0, z1, z2, z3, z4⟩ := id Z
        go_wp2_with fail
        go_ret
        exact ⟨_, rfl, by rw [HV.out, List.length_set, lsV_len]; exact own_baseI16 O2 (Nat.le_succ _), (B.setCell hbg' _).setCell hbg' _⟩
      have qe : (x0 == sl) = false := by rw [beq_eq_false_iff_ne]; exact q
      by_cases q2 : sl < x0
      · have HV : Hid (hpL M n sl ct = (lsV M n).take k ++ (sl, ct) :: (lsV M n).drop k) := hp_gt hlt HL.out (by rw [HM.out]; exact q2) fun j h1 h2 => by
          have := hr_asc HH.out h1 h2
          rw [HM.out] at this
          have q2' : sl < x0 := q2
          omega
        have A2 := Below.nw v2 (.cells #[.int .i64 sl, .int .i64 ct] 80)
        have O2 := own_belK' OW A2
        have hbs : w.heap.size + 1 ≤ (v2.alloc (.cells #[.int .i64 sl, .int .i64 ct] 80)).heap.size := Nat.le_trans hj A2.size
        have CI := insert_any (w.heap.size + 1) _ n _ k sl ct v2.heap.size (v2.alloc (.cells #[.int .i64 sl, .int .i64 ct] 80)) O2 hlt hn (heap_alloc_new v2 _) (by intro e; simp [Value.ownBlock] at e; omega) (vrow_oneC _) hbs
        have HG : Hid (∀ w', (v2.alloc (.cells #[.int .i64 sl, .int .i64 ct] 80)).grownBy w' (Value.slice (some ⟨g, 0, none⟩) n cap).ownBlock → Below w.heap.size w w') := fun w' hg => (B.trans (A2.mono B.size)).trans ((grown_belowK O2 hg hbs).mono (Nat.le_succ _))
        clear q A2 O2 hbs
        obtain ⟨d0, d1, d2, d3, d4⟩ := id D
        obtain ⟨z0, z1, z2, z3, z4⟩ := id Z
        go_wp2_with fail
        refine CI.mono ?_
        clear CI
        rintro e v3 ⟨v4, rfl, O3, hg3⟩
        have HO3 : Hid (v3.ownsRow (w.heap.size + 1) 80 2 v4 (n + 1) (vrow ((lsV M n).take k ++ (sl, ct) :: (lsV M n).drop k))) := by
          rw [vrow_put (lsV M n) k (by rw [lsV_len]; omega)] at O3
          exact O3
        have B3 := HG.out _ hg3
        clear O3 hg3 HG
        go_wp2_with fail
        go_ret
        exact ⟨_, rfl, by rw [HV.out]; have e : ((lsV M n).take k ++ (sl, ct) :: (lsV M n).drop k).length = n + 1 := by { simp [lsV_len]; omega }; rw [e]; exact own_baseI16 HO3.out (Nat.le_succ _), B3⟩
      · have HL2 : Hid (∀ j, j < k + 1 → (M j).1 < sl) := fun j hj => by
          by_cases e : j = k
          · subst e; rw [HM.out]; show x0 < sl; omega
          · exact HL.out j (by omega)
        clear HM HL HH q
        obtain ⟨d0, d1, d2, d3, d4⟩ := id D
        obtain ⟨z0, z1, z2, z3, z4⟩ := id Z
        go_wp2_with fail
        go_roundw
        case rel => exact ⟨k + 1, HLT.out, by go_num, HL2.out, B, hj, D, OW⟩
        case measure => have hlt' := HLT.out; simp [intOf]; omega
    · obtain rfl : k = n := by omega
      have hli : ¬ (k : Int) < (k : Int) := by omega
      have HV : Hid (hpL M k sl ct = lsV M k ++ [(sl, ct)]) := hp_end HL.out
      have hlen' : (lsV M k).length ≤ 4096 := by rw [lsV_len]; omega
      have BJ := Below.refl (w.heap.size + 1) wr
      replace OW : wr.ownsRow (w.heap.size + 1) 80 2 (.slice (some ⟨g, 0, none⟩) k cap) (lsV M k).length (vrow (lsV M k)) := by rw [lsV_len]; exact OW
      clear HL HH
      obtain ⟨d0, d1, d2, d3, d4⟩ := id D
      go_wp2_with (at_builtin; refine add_heard rfl _ _ rfl (w.heap.size + 1) (lsV M k) _ rfl OW rfl hlen' hj ?_; intro v2 w9 O9 hg9 hn9; (have BJ9 := BJ.trans (grown_belowK OW hg9 hj)))
      go_ret
      exact ⟨_, rfl, by rw [HV.out]; exact own_baseI16 O9 (Nat.le_succ _), B.trans (BJ9.mono (Nat.le_succ _))⟩
end Go.Proofs.YtdahabbdhjgpdaaDoor
