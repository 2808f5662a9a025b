/- What the draw of a net and a place leaves. -/
import Derived.Test.YtfdcjfebfbpliaaM52
import Derived.Deep.RegionHeld3
import Derived.Deep.DeepCutAuto
import Derived.WalkKit
import Derived.WalkSpells
import Derived.WalkLawsBesides
import Derived.Deep.RegionHeld
namespace Go.Proofs.Ytfdcjfebfbpliaa
open Go.RowKit
set_option linter.unusedVariables false
set_option maxHeartbeats 1000000 in
theorem l5DrawAt_any (B p : Nat) (k : Int) (w : World) (hcur : CurOk w B p) (h0 : 0 ≤ k) (h1 : k ≤ 100) :
    Calls Try.prog 35 #[.pointer (some ⟨p, 0, none⟩), .int .i64 k] w fun e w' => ∃ x : Int, e = .returned (.int .i64 x) ∧ CurOk w' B p ∧ But p w w' := by
  go_enter Try.func35, Try.ntmps35
  go_wp2_with fail
  refine (l1Below_any B p _ _ hcur).mono ?_
  rintro e w1 ⟨x, rfl, _, _, _, _, c1, b1⟩
  go_wp2_with fail
  refine (l1Below_any B p _ _ c1).mono ?_
  rintro e w2 ⟨y, rfl, yl, yh, _, _, c2, b2⟩
  go_wp2_with fail
  go_ret
  exact ⟨_, rfl, c2, b1.trans b2⟩
set_option maxRecDepth 100000 in
set_option maxHeartbeats 8000000 in
theorem l5DrawPlace_any (a : Option Addr) (n c : Nat) (w : World) (hn : n ≤ 1048576) (hcode : CodeB w w.heap.size a n) :
    Calls Try.prog 20 #[.slice a n c] w fun e w' => ∃ (nx : Int) (A : Option Addr) (m c' : Nat) (M : Nat → FT) (nd : Int), e = .returned (.tuple #[.agg #[.int .i64 nx, .slice A m c'], .int .i64 nd]) ∧ m ≤ 41 ∧ fwf M m ∧ w'.ownsRow w.heap.size 30 5 (.slice A m c') m (frow M m) ∧ Below w.heap.size w w' := by
  have HC : Hid (CodeB w w.heap.size a n) := hcode
  clear hcode
  have R := B2.new w (.int .i64 0) (.slice none 0 0) 26
  have B := Below.nw w (.cells #[.int .i64 0, .slice none 0 0] 26)
  have HC2 : Hid (CodeB (w.alloc (.cells #[.int .i64 0, .slice none 0 0] 26)) (w.alloc (.cells #[.int .i64 0, .slice none 0 0] 26)).heap.size a n) := (HC.out.below B).more (by simp)
  have hsz0 : (w.alloc (.cells #[.int .i64 0, .slice none 0 0] 26)).heap.size = w.heap.size + 1 := by simp
  go_enter Try.func20, Try.ntmps20
  go_wp2_with fail
  refine (l1New_any a n c _ hn HC2.out).mono ?_
  rintro e w1 ⟨p, rfl, C, hb⟩
  rw [hsz0] at C
  have hpp := C.lt
  replace R := R.below hb
  replace B := B.trans (hb.mono B.size)
  have hw1 : w.heap.size + 1 ≤ w1.heap.size := by have := hb.size; omega
  clear hb HC HC2 hsz0
  have hwp : w.heap.size ≤ p := by omega
  have hrp : w.heap.size ≠ p := by omega
  have hp1 : p < w1.heap.size := hpp.1
  go_wp2_with fail
  refine (l5DrawAny_any _ p _ C).mono ?_
  rintro e w2 ⟨nx, A, m, c', M, rfl, hm, hk, O, C2, hb⟩
  clear C
  replace R := R.but hb hrp
  replace B := B.trans (hb.below hwp B.size)
  have hs2 := hb.2.2.2.1
  clear hb
  have A2 := Below.nw w2 (.cells #[.int .i64 nx, .slice A m c'] 26)
  have N := B2.new w2 (.int .i64 nx) (.slice A m c') 26
  have HO : ∀ g, (Value.slice A m c').ownBlock = some g → w.heap.size ≠ g := fun g hg => by have := (World.ownsRow.lt O g hg).1; omega
  replace O := own_belowF O A2
  replace R := R.below A2
  have C := C2.below A2
  replace B := B.trans (A2.mono B.size)
  have hnp : w2.heap.size ≠ p := by omega
  have hnw : w2.heap.size ≠ w.heap.size := by omega
  clear A2 C2 hs2
  go_upto_region 3 with fail
  generalize w2.heap.size = bt at *
  generalize w2.alloc (.cells #[.int .i64 nx, .slice A m c'] 26) = v at *
  obtain ⟨n0, n1, n2, n3, n4⟩ := id N
  obtain ⟨r0, r1, r2, r3, r4⟩ := id R
  refine wp_region_held_drew (S := (fun w' => w'.cell? ⟨bt, 0, none⟩ = some (.int .i64 nx) ∧ w'.cell? ⟨bt, 1, none⟩ = some (.slice A m c'))) (by kernel_rfl) ?_ (fun hHeld => ?_)
  · first | exact ⟨n1, n2⟩ | exact ⟨s1, s2⟩ | (simp (maxDischargeDepth := 6) [go_sem, *]; done)
  clear n0 n1 n2 n3 n4 r0 r1 r2 r3 r4
  replace N := N.drew
  replace R := R.drew
  replace B := Below.drew B
  replace C := CurOk.drew C
  have O : (World.drew v).ownsRow w1.heap.size 30 5 (.slice A m c') m (frow M m) := O
  generalize v.drew = v at *
  obtain ⟨n0, n1, n2, n3, n4⟩ := id N
  obtain ⟨r0, r1, r2, r3, r4⟩ := id R
  refine wpAnyH_take (i := 0) (v := ?_) (by rw [List.getElem?_toArray]; rfl) (by kernel_rfl) (by kernel_rfl) (by kernel_rfl) (by intro _ _ _ h; exact h) (Or.inl ⟨by rfl, ?_⟩) (by assumption) ?_
  rotate_left
  · (intro w hSw; (try dsimp only at hSw); go_simp; all_goals with_reducible rfl)
  (try simp only [Act.put, List.setIfInBounds_toArray, List.set_cons_zero, List.set_cons_succ])
  refine wpAnyH_take (i := 1) (v := ?_) (by rw [List.getElem?_toArray]; rfl) (by kernel_rfl) (by kernel_rfl) (by kernel_rfl) (by intro _ _ _ h; exact h) (Or.inl ⟨by rfl, ?_⟩) (by assumption) ?_
  rotate_left
  · (intro w hSw; (try dsimp only at hSw); go_simp; all_goals with_reducible rfl)
  (try simp only [Act.put, List.setIfInBounds_toArray, List.set_cons_zero, List.set_cons_succ])
  refine wpAnyH_take (i := 2) (v := ?_) (by rw [List.getElem?_toArray]; rfl) (by kernel_rfl) (by kernel_rfl) (by kernel_rfl) (by intro _ _ _ h; exact h) (Or.inl ⟨by rfl, ?_⟩) (by assumption) ?_
  rotate_left
  · (intro w hSw; (try dsimp only at hSw); go_simp; all_goals with_reducible rfl)
  (try simp only [Act.put, List.setIfInBounds_toArray, List.set_cons_zero, List.set_cons_succ])
  refine wpAnyH_take (i := 3) (v := ?_) (by rw [List.getElem?_toArray]; rfl) (by kernel_rfl) (by kernel_rfl) (by kernel_rfl) (by intro _ _ _ h; exact h) (Or.inl ⟨by rfl, ?_⟩) (by assumption) ?_
  rotate_left
  · (intro w hSw; (try dsimp only at hSw); go_simp; all_goals with_reducible rfl)
  (try simp only [Act.put, List.setIfInBounds_toArray, List.set_cons_zero, List.set_cons_succ])
  refine wpAnyH_take (i := 4) (v := ?_) (by rw [List.getElem?_toArray]; rfl) (by kernel_rfl) (by kernel_rfl) (by kernel_rfl) (by intro _ _ _ h; exact h) (Or.inl ⟨by rfl, ?_⟩) (by assumption) ?_
  rotate_left
  · (intro w hSw; (try dsimp only at hSw); go_simp; all_goals with_reducible rfl)
  (try simp only [Act.put, List.setIfInBounds_toArray, List.set_cons_zero, List.set_cons_succ])
  refine wpAnyH_ready (rs := [5]) (by kernel_rfl) (by simp) ?_
  refine (AllReadyH.cons (by rw [List.getElem?_toArray]; rfl) (fun K hK => ?_) AllReadyH.nil)
  go_simp
  refine (l5DrawAt_any _ p _ _ C (by omega) (by omega)).mono ?_; rintro e v ⟨y1, rfl, C', hb⟩; clear C; (have C := C'); clear C' n0 n1 n2 n3 n4 r0 r1 r2 r3 r4; (replace N := N.but hb hnp); (replace R := R.but hb hrp); (replace O := own_butF O hb hp1); (replace B := B.trans (hb.below hwp B.size)); clear hb; obtain ⟨n0, n1, n2, n3, n4⟩ := id N; obtain ⟨r0, r1, r2, r3, r4⟩ := id R; (have s1 : ((v.setCell ⟨w.heap.size, 0, none⟩ (.int .i64 nx)).setCell ⟨w.heap.size, 1, none⟩ (.slice A m c')).cell? ⟨bt, 0, none⟩ = some (.int .i64 nx) := (World.cell?_setCell_other _ _ _ _ (by simp; try omega)).trans ((World.cell?_setCell_other _ _ _ _ (by simp; try omega)).trans n1)); (have s2 : ((v.setCell ⟨w.heap.size, 0, none⟩ (.int .i64 nx)).setCell ⟨w.heap.size, 1, none⟩ (.slice A m c')).cell? ⟨bt, 1, none⟩ = some (.slice A m c') := (World.cell?_setCell_other _ _ _ _ (by simp; try omega)).trans ((World.cell?_setCell_other _ _ _ _ (by simp; try omega)).trans n2))
  (try go_wp2_with fail)
  refine hK.out _ _ ?_ (fun hHeld => ?_)
  · first | exact ⟨n1, n2⟩ | exact ⟨s1, s2⟩ | (simp (maxDischargeDepth := 6) [go_sem, *]; done)
  clear hK K
  (try simp only [Act.put, List.setIfInBounds_toArray, List.set_cons_zero, List.set_cons_succ])
  refine wpAnyH_ready (rs := [6]) (by kernel_rfl) (by simp) ?_
  refine (AllReadyH.cons (by rw [List.getElem?_toArray]; rfl) (fun K hK => ?_) AllReadyH.nil)
  go_simp
  refine hK.out _ _ ?_ (fun hHeld => ?_)
  · first | exact ⟨n1, n2⟩ | exact ⟨s1, s2⟩ | (simp (maxDischargeDepth := 6) [go_sem, *]; done)
  clear hK K
  (try simp only [Act.put, List.setIfInBounds_toArray, List.set_cons_zero, List.set_cons_succ])
  refine wpAnyH_take (i := 7) (v := ?_) (by rw [List.getElem?_toArray]; rfl) (by kernel_rfl) (by kernel_rfl) (by kernel_rfl) (by intro _ _ _ h; exact h) (Or.inl ⟨by rfl, ?_⟩) (by assumption) ?_
  rotate_left
  · (intro w hSw; (try dsimp only at hSw); go_simp; all_goals with_reducible rfl)
  (try simp only [Act.put, List.setIfInBounds_toArray, List.set_cons_zero, List.set_cons_succ])
  refine wpAnyH_done (by kernel_rfl) ?_ _
  have hq : But w.heap.size v ((v.setCell ⟨w.heap.size, 0, none⟩ (.int .i64 nx)).setCell ⟨w.heap.size, 1, none⟩ (.slice A m c')) := ((But.refl _ v).setCell 0 _).setCell 1 _
  have B9 : Below w.heap.size w ((v.setCell ⟨w.heap.size, 0, none⟩ (.int .i64 nx)).setCell ⟨w.heap.size, 1, none⟩ (.slice A m c')) := B.trans (hq.below (Nat.le_refl _) B.size)
  have R9 : B2 ((v.setCell ⟨w.heap.size, 0, none⟩ (.int .i64 nx)).setCell ⟨w.heap.size, 1, none⟩ (.slice A m c')) w.heap.size (.int .i64 nx) (.slice A m c') := R.setB _ _
  have O9 : ((v.setCell ⟨w.heap.size, 0, none⟩ (.int .i64 nx)).setCell ⟨w.heap.size, 1, none⟩ (.slice A m c')).ownsRow w1.heap.size 30 5 (.slice A m c') m (frow M m) := own_neF O hq (fun g hg e => HO g hg e.symm)
  clear n0 n1 n2 n3 n4 r0 r1 r2 r3 r4 s1 s2 N R O B C hHeld hq HO
  generalize ((v.setCell ⟨w.heap.size, 0, none⟩ (.int .i64 nx)).setCell ⟨w.heap.size, 1, none⟩ (.slice A m c')) = w9 at *
  obtain ⟨m0, m1, m2, m3, m4⟩ := R9
  go_wp2_with fail
  exact bodyPost_ret (v := .tuple #[.agg #[.int .i64 nx, .slice A m c'], .int .i64 _]) (by simp (maxDischargeDepth := 6) [results, Try.results20, go_sem, m1, m2]; rfl) rfl ⟨nx, A, m, c', M, _, rfl, hm, hk, ownF_le O9 (by omega), B9⟩
set_option maxRecDepth 100000 in
set_option maxHeartbeats 4000000 in
theorem DrawNetTake_any (a : Option Addr) (n c : Nat) (w : World) (hn : n ≤ 1048576) (hcode : CodeB w w.heap.size a n) :
    Calls Try.prog 6 #[.slice a n c] w fun e w' => ∃ (nx : Int) (A : Option Addr) (m c' : Nat) (M : Nat → FT) (nd : Int), e = .returned (.tuple #[.agg #[.int .i64 nx, .slice A m c'], .int .i64 nd]) ∧ m ≤ 41 ∧ fwf M m ∧ w'.ownsRow w.heap.size 30 5 (.slice A m c') m (frow M m) ∧ Below w.heap.size w w' := by
  have HC : Hid (CodeB w w.heap.size a n) := hcode
  clear hcode
  have R := B2.new w (.int .i64 0) (.slice none 0 0) 26
  have B := Below.nw w (.cells #[.int .i64 0, .slice none 0 0] 26)
  have HC2 : Hid (CodeB (w.alloc (.cells #[.int .i64 0, .slice none 0 0] 26)) (w.alloc (.cells #[.int .i64 0, .slice none 0 0] 26)).heap.size a n) := (HC.out.below B).more (by simp)
  have hsz0 : (w.alloc (.cells #[.int .i64 0, .slice none 0 0] 26)).heap.size = w.heap.size + 1 := by simp
  go_enter Try.func6, Try.ntmps6
  go_wp2_with fail
  refine (l5DrawPlace_any a n c _ hn HC2.out).mono ?_
  rintro e w1 ⟨nx, A, m, c', M, nd, rfl, hm, hk, O, hb⟩
  rw [hsz0] at O
  replace R := R.below hb
  replace B := B.trans (hb.mono B.size)
  clear hb HC HC2 hsz0
  have A2 := Below.nw w1 (.cells #[.int .i64 nx, .slice A m c'] 26)
  have N := NB.new w1 nx A m c' 26
  replace O := own_belowF O A2
  replace R := R.below A2
  replace B := B.trans (A2.mono B.size)
  clear A2
  go_upto_region 2 with fail
  generalize w1.heap.size = bt at *
  generalize w1.alloc (.cells #[.int .i64 nx, .slice A m c'] 26) = v at *
  obtain ⟨n0, n1, n2⟩ := id N
  obtain ⟨r0, r1, r2, r3, r4⟩ := id R
  have hq : But w.heap.size v ((v.setCell ⟨w.heap.size, 0, none⟩ (.int .i64 nx)).setCell ⟨w.heap.size, 1, none⟩ (.slice A m c')) := ((But.refl _ v).setCell 0 _).setCell 1 _
  have O9 := own_butF O hq (by omega)
  have B9 := B.trans (hq.below (Nat.le_refl _) B.size)
  have R9 := R.setB (.int .i64 nx) (.slice A m c')
  go_wp2_with fail
  clear n0 n1 n2 r0 r1 r2 r3 r4 hq O B R N
  generalize ((v.setCell ⟨w.heap.size, 0, none⟩ (.int .i64 nx)).setCell ⟨w.heap.size, 1, none⟩ (.slice A m c')) = w9 at *
  obtain ⟨m0, m1, m2, m3, m4⟩ := R9
  exact bodyPost_ret (v := .tuple #[.agg #[.int .i64 nx, .slice A m c'], .int .i64 nd]) (by simp (maxDischargeDepth := 6) [results, Try.results6, go_sem, m1, m2]) rfl ⟨nx, A, m, c', M, nd, rfl, hm, hk, ownF_le O9 (by omega), B9⟩
end Go.Proofs.Ytfdcjfebfbpliaa
