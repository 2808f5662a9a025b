/- The contract of the mail: send. -/
import Derived.Test.YtfdcjfebfbpliaaN71
import Derived.Deep.RegionHeld3
import Derived.Deep.DeepCutAuto
import Derived.WalkKit
import Derived.WalkSpells
import Derived.WalkLawsBesides
import Derived.Deep.RegionHeld
namespace Go.Proofs.Ytfdcjfebfbpliaa
open Go.RowKit
set_option linter.unusedVariables false
theorem MB.set0 {w : World} {j : Nat} {u0 u1 u2 : Value} (h : MB w j u0 u1 u2) (a0 : Value) : MB (w.setCell ⟨j, 0, none⟩ a0) j a0 u1 u2 := by
  obtain ⟨h0, c0, c1, c2, f0, f1, f2⟩ := h
  exact ⟨by simpa using h0, World.cell?_setCell_same _ _ _ c0, by rw [World.cell?_setCell_other _ _ _ _ (by simp)]; exact c1, by rw [World.cell?_setCell_other _ _ _ _ (by simp)]; exact c2, by simpa using f0, by simpa using f1, by simpa using f2⟩
theorem F5.set0 {w : World} {j : Nat} {x0 x1 x2 : Int} {x3 : ByteArray} {x4 : Int} (h : F5 w j x0 x1 x2 x3 x4) (y0 : Int) : F5 (w.setCell ⟨j, 0, none⟩ (.int .i64 y0)) j y0 x1 x2 x3 x4 := by
  obtain ⟨h0, c0, c1, c2, c3, c4, f0, f1, f2, f3, f4⟩ := h
  exact ⟨by simpa using h0, World.cell?_setCell_same _ _ _ c0, by rw [World.cell?_setCell_other _ _ _ _ (by simp)]; exact c1, by rw [World.cell?_setCell_other _ _ _ _ (by simp)]; exact c2, by rw [World.cell?_setCell_other _ _ _ _ (by simp)]; exact c3, by rw [World.cell?_setCell_other _ _ _ _ (by simp)]; exact c4, by simpa using f0, by simpa using f1, by simpa using f2, by simpa using f3, by simpa using f4⟩
set_option maxHeartbeats 2000000 in
theorem mailSend_full (nx : Int) (j bm br n : Nat) (x0 x1 x2 : Int) (x3 : ByteArray) (x4 : Int) (w : World) (hn : n ≤ 40) (X : MB w j (.int .i64 nx) (.map (some bm)) (.slice (some ⟨br, 0, none⟩) n n)) (hf : n = 40 ∨ nx = 1000000) :
    Calls Try.prog 26 #[.pointer (some ⟨j, 0, none⟩), .agg #[.int .i64 x0, .int .i64 x1, .int .i64 x2, .string x3, .int .i64 x4]] w fun e w' => e = .returned (.bool false) ∧ Below w.heap.size w w' := by
  have A1 := Below.nw w (.cells #[.int .i64 x0, .int .i64 x1, .int .i64 x2, .string x3, .int .i64 x4] 30)
  replace X := X.below A1
  obtain ⟨k0, k1, k2, k3, k4, k5, k6⟩ := id X
  by_cases h : n = 40
  · subst h
    go_enter Try.func26, Try.ntmps26
    go_wp2_with fail
    go_ret
    exact ⟨rfl, A1⟩
  · have h2 := hf.resolve_left h
    subst h2
    have d1 : ((n : Int) == 40) = false := by simp; omega
    have d2 : decide ((n : Int) = 40) = false := decide_eq_false (by omega)
    clear hf
    go_enter Try.func26, Try.ntmps26
    go_wp2_with fail
    go_ret
    exact ⟨rfl, A1⟩
set_option maxRecDepth 100000 in
set_option maxHeartbeats 4000000 in
theorem mailSend_done (nx : Int) (j bm br n q : Nat) (F : Int → Option FT) (G : Nat → FT) (x0 x1 x2 : Int) (x3 : ByteArray) (x4 : Int) (w : World) (hn : n < 40) (hq : q ≤ 1000) (hnx : 0 ≤ nx ∧ nx < 1000000) (X : MB w j (.int .i64 nx) (.map (some bm)) (.slice (some ⟨br, 0, none⟩) n n)) (MP : MapI w bm q F) (RW : RowF w br 3 n n (idF G)) (h1 : j ≠ bm) (h2 : j ≠ br) (h3 : bm ≠ br) :
    Calls Try.prog 26 #[.pointer (some ⟨j, 0, none⟩), .agg #[.int .i64 x0, .int .i64 x1, .int .i64 x2, .string x3, .int .i64 x4]] w fun e w' => ∃ b, e = .returned (.bool true) ∧ w.heap.size ≤ b ∧ MB w' j (.int .i64 (nx + 1)) (.map (some bm)) (.slice (some ⟨b, 0, none⟩) (n + 1) (n + 1)) ∧ MapI w' bm (q + 1) (fun y => if y = nx then some (nx, x1, x2, x3, x4) else F y) ∧ RowF w' b 3 (n + 1) (n + 1) (idF (insG G n (nx, x1, x2, x3, x4))) ∧ But2 j bm w w' := by
  have hwf : (Lit.int .i64 nx).wf = true := by simp only [Lit.wf, Bool.and_eq_true, decide_eq_true_eq]; exact ⟨by show (-9223372036854775808 : Int) ≤ nx; omega, by show nx ≤ (9223372036854775807 : Int); omega⟩
  have A1 := Below.nw w (.cells #[.int .i64 x0, .int .i64 x1, .int .i64 x2, .string x3, .int .i64 x4] 30)
  have hjw := X.1
  have hbm : bm < w.heap.size := MP.lt
  have hbr : br < w.heap.size := RW.lt
  have P := F5.new w x0 x1 x2 x3 x4 30
  have Z : But2 j bm w (w.alloc (.cells #[.int .i64 x0, .int .i64 x1, .int .i64 x2, .string x3, .int .i64 x4] 30)) := But2.ofBelow A1
  replace X := X.below A1
  replace MP := MP.below A1
  replace RW := RowF.below' A1 RW
  have d1 : ((n : Int) == 40) = false := by simp; omega
  have d2 : decide ((n : Int) = 40) = false := decide_eq_false (by omega)
  have d3 : (nx == 1000000) = false := by simp; omega
  have d4 : decide (nx = 1000000) = false := decide_eq_false (by omega)
  have e1 : ¬ (n : Int) = 40 := by omega
  have e2 : ¬ nx = 1000000 := by omega
  clear A1
  obtain ⟨k0, k1, k2, k3, k4, k5, k6⟩ := id X
  obtain ⟨p0, p1, p2, p3, p4, p5, p6, p7, p8, p9, p10⟩ := id P
  go_enter Try.func26, Try.ntmps26
  go_upto_region 3 with fail
  generalize hwv : w.alloc (.cells #[.int .i64 x0, .int .i64 x1, .int .i64 x2, .string x3, .int .i64 x4] 30) = v at *
  have PB := But.one v w.heap.size 0 (.int .i64 nx)
  have P' := P.set0 nx
  have X' := X.but PB (by omega)
  have MP' := MP.but PB (by omega)
  have RW' := RW.but PB (by omega)
  have Z' := Z.new (PB.below (B := w.heap.size) (Nat.le_refl _) Z.2.2.2.1) (Nat.le_refl _)
  go_upto_region 4 with fail
  clear k0 k1 k2 k3 k4 k5 k6 p0 p1 p2 p3 p4 p5 p6 p7 p8 p9 p10 P X MP RW Z PB hwv
  generalize v.setCell ⟨w.heap.size, 0, none⟩ (.int .i64 nx) = v at *
  have PB := But.one v j 0 (.int .i64 (nx + 1))
  have P := P'.but PB (by omega)
  have X := X'.set0 (.int .i64 (nx + 1))
  have MP := MP'.but PB (fun e => h1 e.symm)
  have RW := RW'.but PB (fun e => h2 e.symm)
  have Z := Z'.trans (But2.left PB)
  obtain ⟨k0, k1, k2, k3, k4, k5, k6⟩ := id X'
  go_upto_region 5 with fail
  clear k0 k1 k2 k3 k4 k5 k6 P' X' MP' RW' Z' PB
  generalize v.setCell ⟨j, 0, none⟩ (.int .i64 (nx + 1)) = v at *
  have CP := fun (v : World) (X : MB v j (.int .i64 (nx + 1)) (.map (some bm)) (.slice (some ⟨br, 0, none⟩) n n)) (MP : MapI v bm q F) (RW : RowF v br 3 n n (idF G)) => mailPut_any (nx + 1) j bm br n q n F G nx x1 x2 x3 x4 v (by omega) (Nat.le_refl _) hq X MP RW h1 h2 h3 hwf
  obtain ⟨k0, k1, k2, k3, k4, k5, k6⟩ := id X
  obtain ⟨p0, p1, p2, p3, p4, p5, p6, p7, p8, p9, p10⟩ := id P
  have hvw : w.heap.size ≤ v.heap.size := Z.2.2.2.1
  refine wp_region_held_drew (S := (fun _ => True)) (by kernel_rfl) ?_ (fun hHeld => ?_)
  · trivial
  clear k0 k1 k2 k3 k4 k5 k6 p0 p1 p2 p3 p4 p5 p6 p7 p8 p9 p10
  replace X := X.drew
  replace P := P.drew
  replace MP := MP.drew
  replace RW : RowF v.drew br 3 n n (idF G) := RW
  replace Z : But2 j bm w v.drew := Z
  replace hvw : w.heap.size ≤ v.drew.heap.size := hvw
  generalize v.drew = v at *
  obtain ⟨k0, k1, k2, k3, k4, k5, k6⟩ := id X; obtain ⟨p0, p1, p2, p3, p4, p5, p6, p7, p8, p9, p10⟩ := id P
  refine wpAnyH_take (i := 0) (v := ?_) (by rw [List.getElem?_toArray]; rfl) (by kernel_rfl) (by kernel_rfl) (by kernel_rfl) (by intro _ _ _ h; exact h) (Or.inl ⟨by rfl, ?_⟩) (by assumption) ?_
  rotate_left
  · (intro w hSw; (try dsimp only at hSw); go_simp; all_goals with_reducible rfl)
  (try simp only [Act.put, List.setIfInBounds_toArray, List.set_cons_zero, List.set_cons_succ])
  refine wpAnyH_take (i := 2) (v := ?_) (by rw [List.getElem?_toArray]; rfl) (by kernel_rfl) (by kernel_rfl) (by kernel_rfl) (by intro _ _ _ h; exact h) (Or.inl ⟨by rfl, ?_⟩) (by assumption) ?_
  rotate_left
  · (intro w hSw; (try dsimp only at hSw); go_simp; all_goals with_reducible rfl)
  (try simp only [Act.put, List.setIfInBounds_toArray, List.set_cons_zero, List.set_cons_succ])
  refine wpAnyH_take (i := 3) (v := ?_) (by rw [List.getElem?_toArray]; rfl) (by kernel_rfl) (by kernel_rfl) (by kernel_rfl) (by intro _ _ _ h; exact h) (Or.inl ⟨by rfl, ?_⟩) (by assumption) ?_
  rotate_left
  · (intro w hSw; (try dsimp only at hSw); go_simp; all_goals with_reducible rfl)
  (try simp only [Act.put, List.setIfInBounds_toArray, List.set_cons_zero, List.set_cons_succ])
  refine wpAnyH_take (i := 4) (v := ?_) (by rw [List.getElem?_toArray]; rfl) (by kernel_rfl) (by kernel_rfl) (by kernel_rfl) (by intro _ _ _ h; exact h) (Or.inl ⟨by rfl, ?_⟩) (by assumption) ?_
  rotate_left
  · (intro w hSw; (try dsimp only at hSw); go_simp; all_goals with_reducible rfl)
  (try simp only [Act.put, List.setIfInBounds_toArray, List.set_cons_zero, List.set_cons_succ])
  refine wpAnyH_ready (rs := [1, 5]) (by kernel_rfl) (by simp) ?_
  refine (AllReadyH.cons (by rw [List.getElem?_toArray]; rfl) (fun K hK => ?_) (AllReadyH.cons (by rw [List.getElem?_toArray]; rfl) (fun K hK => ?_) AllReadyH.nil))
  · go_simp
    refine hK.out _ _ ?_ (fun hHeld => ?_)
    · trivial
    clear hK K
    (try simp only [Act.put, List.setIfInBounds_toArray, List.set_cons_zero, List.set_cons_succ])
    refine wpAnyH_ready (rs := [5]) (by kernel_rfl) (by simp) ?_
    refine (AllReadyH.cons (by rw [List.getElem?_toArray]; rfl) (fun K hK => ?_) AllReadyH.nil)
    go_simp
    refine hK.out _ _ ?_ (fun hHeld => ?_)
    · trivial
    clear hK K
    (try simp only [Act.put, List.setIfInBounds_toArray, List.set_cons_zero, List.set_cons_succ])
    refine wpAnyH_take (i := 6) (v := ?_) (by rw [List.getElem?_toArray]; rfl) (by kernel_rfl) (by kernel_rfl) (by kernel_rfl) (by intro _ _ _ h; exact h) (Or.inl ⟨by rfl, ?_⟩) (by assumption) ?_
    rotate_left
    · (intro w hSw; (try dsimp only at hSw); go_simp; all_goals with_reducible rfl)
    (try simp only [Act.put, List.setIfInBounds_toArray, List.set_cons_zero, List.set_cons_succ])
    refine wpAnyH_ready (rs := [7]) (by kernel_rfl) (by simp) ?_
    refine (AllReadyH.cons (by rw [List.getElem?_toArray]; rfl) (fun K hK => ?_) AllReadyH.nil)
    go_simp
    refine (CP _ X MP RW).mono ?_; rintro e v5 ⟨b5, rfl, hb5, X5, M5, R5, Z5⟩; (have F1 : Hid (∃ b, w.heap.size ≤ b ∧ MB v5 j (.int .i64 (nx + 1)) (.map (some bm)) (.slice (some ⟨b, 0, none⟩) (n + 1) (n + 1)) ∧ MapI v5 bm (q + 1) (fun y => if y = nx then some (nx, x1, x2, x3, x4) else F y) ∧ RowF v5 b 3 (n + 1) (n + 1) (idF (insG G n (nx, x1, x2, x3, x4))) ∧ But2 j bm w v5) := ⟨b5, Nat.le_trans hvw hb5, X5, M5, R5, Z.trans Z5⟩); clear X5 M5 R5 Z5 hb5 X MP RW Z P CP; clear k0 k1 k2 k3 k4 k5 k6 p0 p1 p2 p3 p4 p5 p6 p7 p8 p9 p10
    (try go_wp2_with fail)
    refine hK.out _ _ ?_ (fun hHeld => ?_)
    · trivial
    clear hK K
    (try simp only [Act.put, List.setIfInBounds_toArray, List.set_cons_zero, List.set_cons_succ])
    refine wpAnyH_done (by kernel_rfl) ?_ _
    go_wp2_with fail
    go_ret
    obtain ⟨b, q1, q2, q3, q4, q5⟩ := F1.out
    exact ⟨b, rfl, q1, q2, q3, q4, q5⟩
  · go_simp
    refine hK.out _ _ ?_ (fun hHeld => ?_)
    · trivial
    clear hK K
    (try simp only [Act.put, List.setIfInBounds_toArray, List.set_cons_zero, List.set_cons_succ])
    refine wpAnyH_take (i := 6) (v := ?_) (by rw [List.getElem?_toArray]; rfl) (by kernel_rfl) (by kernel_rfl) (by kernel_rfl) (by intro _ _ _ h; exact h) (Or.inl ⟨by rfl, ?_⟩) (by assumption) ?_
    rotate_left
    · (intro w hSw; (try dsimp only at hSw); go_simp; all_goals with_reducible rfl)
    (try simp only [Act.put, List.setIfInBounds_toArray, List.set_cons_zero, List.set_cons_succ])
    refine wpAnyH_ready (rs := [1]) (by kernel_rfl) (by simp) ?_
    refine (AllReadyH.cons (by rw [List.getElem?_toArray]; rfl) (fun K hK => ?_) AllReadyH.nil)
    go_simp
    refine hK.out _ _ ?_ (fun hHeld => ?_)
    · trivial
    clear hK K
    (try simp only [Act.put, List.setIfInBounds_toArray, List.set_cons_zero, List.set_cons_succ])
    refine wpAnyH_ready (rs := [7]) (by kernel_rfl) (by simp) ?_
    refine (AllReadyH.cons (by rw [List.getElem?_toArray]; rfl) (fun K hK => ?_) AllReadyH.nil)
    go_simp
    refine (CP _ X MP RW).mono ?_; rintro e v5 ⟨b5, rfl, hb5, X5, M5, R5, Z5⟩; (have F1 : Hid (∃ b, w.heap.size ≤ b ∧ MB v5 j (.int .i64 (nx + 1)) (.map (some bm)) (.slice (some ⟨b, 0, none⟩) (n + 1) (n + 1)) ∧ MapI v5 bm (q + 1) (fun y => if y = nx then some (nx, x1, x2, x3, x4) else F y) ∧ RowF v5 b 3 (n + 1) (n + 1) (idF (insG G n (nx, x1, x2, x3, x4))) ∧ But2 j bm w v5) := ⟨b5, Nat.le_trans hvw hb5, X5, M5, R5, Z.trans Z5⟩); clear X5 M5 R5 Z5 hb5 X MP RW Z P CP; clear k0 k1 k2 k3 k4 k5 k6 p0 p1 p2 p3 p4 p5 p6 p7 p8 p9 p10
    (try go_wp2_with fail)
    refine hK.out _ _ ?_ (fun hHeld => ?_)
    · trivial
    clear hK K
    (try simp only [Act.put, List.setIfInBounds_toArray, List.set_cons_zero, List.set_cons_succ])
    refine wpAnyH_done (by kernel_rfl) ?_ _
    go_wp2_with fail
    go_ret
    obtain ⟨b, q1, q2, q3, q4, q5⟩ := F1.out
    exact ⟨b, rfl, q1, q2, q3, q4, q5⟩
end Go.Proofs.Ytfdcjfebfbpliaa
