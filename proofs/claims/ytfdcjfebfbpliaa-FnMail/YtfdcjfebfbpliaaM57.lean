/- Taking a flight out of a net whose list may be nil. -/
import Derived.Test.YtfdcjfebfbpliaaN69
import Derived.Laws.AppendOwnNone
import Derived.Deep.RegionHeld3
import Derived.Deep.DeepCutAuto
import Derived.WalkKit
import Derived.WalkSpells
import Derived.WalkLawsBesides
import Derived.Deep.RegionHeld
namespace Go.Proofs.Ytfdcjfebfbpliaa
open Go.RowKit
set_option linter.unusedVariables false
theorem wp_append_noneF {P : Program} {w : World} {o : Oper} {a : Act} {K : Act → World → Prop} {Q : Exit → Act → World → Prop} (s x : Operand) (t : TypeId)
    (ho : o.op = .call { callee := .builtin .append, args := #[s, x], argTypes := #[t, t] })
    (base : Nat) (e : TypeId) (i : TypeInfo) (size : Nat) (ht : P.underlying t = some (.slice e)) (hi : P.info? e = some i)
    (v : Value) (n : Nat) (xs : List Value) (hs : a.eval s = v) (hown : w.ownsRow base e size v n xs) (hx : a.eval x = .slice none 0 0)
    (h : K (a.put o.dst v) w) : o.wp P a w K Q := by
  have hrun := run_append_owned_none (P := P) (w := w) base t o.type e i size ht hi v n xs hown
  unfold Oper.wp
  simp [execOp, ho, resolve, invoke, builtin, hs, hx, hrun, Result.andThen]
  exact h
set_option maxRecDepth 100000 in
set_option maxHeartbeats 4000000 in
theorem l5Copy_nil (nx : Int) (M : Nat → FT) (w : World) :
    Calls Try.prog 21 #[.agg #[.int .i64 nx, .slice none 0 0]] w fun e w' => ∃ a' c', e = .returned (.agg #[.int .i64 nx, .slice a' 0 c']) ∧ w'.ownsRow w.heap.size 30 5 (.slice a' 0 c') 0 (frow M 0) ∧ Below w.heap.size w w' := by
  obtain ⟨i0, hi, hz0, hz1, hz2⟩ := infoF_parts
  have N := (NB.new w nx none 0 0 26).below (Below.nw _ (.cells #[.int .i64 0, .slice none 0 0] 26))
  have R := B2.new (w.alloc (.cells #[.int .i64 nx, .slice none 0 0] 26)) (.int .i64 0) (.slice none 0 0) 26
  have A1 := Below.nw w (.cells #[.int .i64 nx, .slice none 0 0] 26)
  have B := A1.alloc A1.size (.cells #[.int .i64 0, .slice none 0 0] 26)
  simp only [World.size_alloc] at R
  clear A1
  go_enter Try.func21, Try.ntmps21
  go_wp2_with fail
  generalize (w.alloc (.cells #[.int .i64 nx, .slice none 0 0] 26)).alloc (.cells #[.int .i64 0, .slice none 0 0] 26) = v at *
  obtain ⟨n0, n1, n2⟩ := id N
  obtain ⟨r0, r1, r2, r3, r4⟩ := id R
  refine wp_region_held_drew (S := (fun w' => w'.cell? ⟨w.heap.size, 0, none⟩ = some (.int .i64 nx) ∧ w'.cell? ⟨w.heap.size, 1, none⟩ = some (.slice none 0 0))) (by kernel_rfl) ?_ (fun hHeld => ?_)
  · first | exact ⟨n1, n2⟩ | (simp (maxDischargeDepth := 6) [go_sem, *]; done)
  clear n0 n1 n2 r0 r1 r2 r3 r4
  replace N := N.drew
  replace R := R.drew
  replace B := Below.drew B
  generalize v.drew = v at *
  (obtain ⟨n0, n1, n2⟩ := id N); (obtain ⟨r0, r1, r2, r3, r4⟩ := id R)
  refine wpAnyH_take (i := 0) (v := ?_) (by rw [List.getElem?_toArray]; rfl) (by kernel_rfl) (by kernel_rfl) (by kernel_rfl) (by intro _ _ _ h; exact h) (Or.inl ⟨by rfl, ?_⟩) (by assumption) ?_
  rotate_left
  · (intro w hSw; (try dsimp only at hSw); go_simp; all_goals with_reducible rfl)
  (try simp only [Act.put, List.setIfInBounds_toArray, List.set_cons_zero, List.set_cons_succ])
  refine wpAnyH_take (i := 1) (v := ?_) (by rw [List.getElem?_toArray]; rfl) (by kernel_rfl) (by kernel_rfl) (by kernel_rfl) (by intro _ _ _ h; exact h) (Or.inl ⟨by rfl, ?_⟩) (by assumption) ?_
  rotate_left
  · (intro w hSw; (try dsimp only at hSw); go_simp; all_goals with_reducible rfl)
  (try simp only [Act.put, List.setIfInBounds_toArray, List.set_cons_zero, List.set_cons_succ])
  refine wpAnyH_take (i := 3) (v := ?_) (by rw [List.getElem?_toArray]; rfl) (by kernel_rfl) (by kernel_rfl) (by kernel_rfl) (by intro _ _ _ h; exact h) (Or.inl ⟨by rfl, ?_⟩) (by assumption) ?_
  rotate_left
  · (intro w hSw; (try dsimp only at hSw); go_simp; all_goals with_reducible rfl)
  (try simp only [Act.put, List.setIfInBounds_toArray, List.set_cons_zero, List.set_cons_succ])
  refine wpAnyH_take (i := 4) (v := ?_) (by rw [List.getElem?_toArray]; rfl) (by kernel_rfl) (by kernel_rfl) (by kernel_rfl) (by intro _ _ _ h; exact h) (Or.inl ⟨by rfl, ?_⟩) (by assumption) ?_
  rotate_left
  · (intro w hSw; (try dsimp only at hSw); go_simp; all_goals with_reducible rfl)
  (try simp only [Act.put, List.setIfInBounds_toArray, List.set_cons_zero, List.set_cons_succ])
  refine wpAnyH_ready (rs := [2]) (by kernel_rfl) (by simp) ?_
  refine (AllReadyH.cons (by rw [List.getElem?_toArray]; rfl) (fun K hK => ?_) AllReadyH.nil)
  go_simp
  (have hvz : w.heap.size + 2 ≤ v.heap.size := r0); (have O := World.ownsRow_made (base := w.heap.size + 2) (size := 5) (e := 30) v #[] 0 hvz (by simp [maxLen]) (by simp)); (have A := Below.nw v (.cells #[] 30)); clear n0 n1 n2 r0 r1 r2 r3 r4; (replace N := N.below A); (replace R := R.below A); (replace B := B.trans (A.mono B.size)); (have hsz : w.heap.size + 2 ≤ (v.alloc (.cells #[] 30)).heap.size := Nat.le_trans hvz A.size); clear A; (generalize v.alloc (.cells #[] 30) = v2 at *); (obtain ⟨n0, n1, n2⟩ := id N); (obtain ⟨r0, r1, r2, r3, r4⟩ := id R)
  refine hK.out _ _ ?_ (fun hHeld => ?_)
  · first | exact ⟨n1, n2⟩ | (simp (maxDischargeDepth := 6) [go_sem, *]; done)
  clear hK K
  (try simp only [Act.put, List.setIfInBounds_toArray, List.set_cons_zero, List.set_cons_succ])
  refine wpAnyH_ready (rs := [5]) (by kernel_rfl) (by simp) ?_
  refine (AllReadyH.cons (by rw [List.getElem?_toArray]; rfl) (fun K hK => ?_) AllReadyH.nil)
  rw [if_pos (by rfl)]; refine wp_append_noneF _ _ 24 rfl (w.heap.size + 2) 30 i0 5 Try.underlying24 hi _ 0 _ rfl O rfl ?_; (have hown' := O); clear n0 n1 n2 r0 r1 r2 r3 r4; (obtain ⟨n0, n1, n2⟩ := id N); (obtain ⟨r0, r1, r2, r3, r4⟩ := id R)
  refine hK.out _ _ ?_ (fun hHeld => ?_)
  · first | exact ⟨n1, n2⟩ | (simp (maxDischargeDepth := 6) [go_sem, *]; done)
  clear hK K
  (try simp only [Act.put, List.setIfInBounds_toArray, List.set_cons_zero, List.set_cons_succ])
  refine wpAnyH_take (i := 6) (v := ?_) (by rw [List.getElem?_toArray]; rfl) (by kernel_rfl) (by kernel_rfl) (by kernel_rfl) (by intro _ _ _ h; exact h) (Or.inl ⟨by rfl, ?_⟩) (by assumption) ?_
  rotate_left
  · (intro w hSw; (try dsimp only at hSw); go_simp; all_goals with_reducible rfl)
  (try simp only [Act.put, List.setIfInBounds_toArray, List.set_cons_zero, List.set_cons_succ])
  refine wpAnyH_ready (rs := [7]) (by kernel_rfl) (by simp) ?_
  refine (AllReadyH.cons (by rw [List.getElem?_toArray]; rfl) (fun K hK => ?_) AllReadyH.nil)
  go_simp
  refine hK.out _ _ ?_ (fun hHeld => ?_)
  · first | exact ⟨n1, n2⟩ | (simp (maxDischargeDepth := 6) [go_sem, *]; done)
  clear hK K
  (try simp only [Act.put, List.setIfInBounds_toArray, List.set_cons_zero, List.set_cons_succ])
  refine wpAnyH_done (by kernel_rfl) ?_ _
  go_wp2_with fail
  have PB := ((But.refl (w.heap.size + 1) v2).setCell 0 (.int .i64 nx)).setCell 1 (.slice (some ⟨v.heap.size, 0, none⟩) 0 0)
  exact bodyPost_ret (v := .agg #[.int .i64 nx, .slice (some ⟨v.heap.size, 0, none⟩) 0 0]) (by simp (maxDischargeDepth := 6) [results, Try.results21, go_sem, *]) rfl ⟨_, _, rfl, ownB_le (own_butF hown' PB (by omega)) (by omega), B.trans (PB.below (by omega) B.size)⟩
set_option maxHeartbeats 4000000 in
theorem specNetTake0_bad (nx i : Int) (a0 : Option Addr) (n c : Nat) (M : Nat → FT) (w : World) (hm : n ≤ maxLen) (hf : SrcC w a0 (n * 5) (MFFlight M)) (hs : ∀ i, i < n → ((M i).2.2.2.1).size ≤ maxLen) (h : netB nx M n = false) :
    Calls Try.prog 7 #[.agg #[.int .i64 nx, .slice a0 n c], .int .i64 i] w fun e w' => e = .returned (.tuple #[.agg #[.int .i64 0, .slice none 0 0], .agg #[.int .i64 0, .int .i64 0, .int .i64 0, .string ⟨#[]⟩, .int .i64 0], .int .i64 1]) ∧ Below w.heap.size w w' := by
  have R1 := (B2.new (w.alloc (.cells #[.int .i64 nx, .slice a0 n c] 26)) (.int .i64 0) (.slice none 0 0) 26).below (Below.nw _ (.cells #[.int .i64 0, .int .i64 0, .int .i64 0, .string ⟨#[]⟩, .int .i64 0] 30))
  have R2 := F5.new ((w.alloc (.cells #[.int .i64 nx, .slice a0 n c] 26)).alloc (.cells #[.int .i64 0, .slice none 0 0] 26)) 0 0 0 ⟨#[]⟩ 0 30
  have A1 := Below.nw w (.cells #[.int .i64 nx, .slice a0 n c] 26)
  have A2 := A1.alloc A1.size (.cells #[.int .i64 0, .slice none 0 0] 26)
  have B := A2.alloc A2.size (.cells #[.int .i64 0, .int .i64 0, .int .i64 0, .string ⟨#[]⟩, .int .i64 0] 30)
  have CO := fun w' (h' : SrcC w' a0 (n * 5) (MFFlight M)) => specNetOk_any nx a0 n c M w' hm h' hs
  rw [h] at CO
  have CS := hf.below B
  simp only [World.size_alloc] at R1 R2
  clear hf A1 A2 h
  go_enter Try.func7, Try.ntmps7
  go_wp2_with fail
  refine (CO _ CS).mono ?_
  rintro e v ⟨rfl, hb⟩
  replace B := B.trans (hb.mono B.size)
  obtain ⟨r0, r1, r2, r3, r4⟩ := R1.below hb
  obtain ⟨f0, f1, f2, f3, f4, f5, f6, f7, f8, f9, f10⟩ := R2.below hb
  clear hb CO CS R1 R2
  go_wp2
  have PB1 := ((But.refl (w.heap.size + 1) v).setCell 0 (.int .i64 0)).setCell 1 (.slice none 0 0)
  have PB2 := put5_but ((v.setCell ⟨w.heap.size + 1, 0, none⟩ (.int .i64 0)).setCell ⟨w.heap.size + 1, 1, none⟩ (.slice none 0 0)) (w.heap.size + 1 + 1) 0 (.int .i64 0) (.int .i64 0) (.int .i64 0) (.string ⟨#[]⟩) (.int .i64 0)
  exact bodyPost_ret (v := .tuple #[.agg #[.int .i64 0, .slice none 0 0], .agg #[.int .i64 0, .int .i64 0, .int .i64 0, .string ⟨#[]⟩, .int .i64 0], .int .i64 1]) (by simp (maxDischargeDepth := 6) [results, Try.results7, go_sem, *]) rfl ⟨rfl, (B.trans (PB1.below (by omega) B.size)).trans (PB2.below (by omega) (B.trans (PB1.below (B := w.heap.size) (by omega) B.size)).size)⟩
set_option maxHeartbeats 4000000 in
theorem specNetTake_nil (nx i : Int) (M : Nat → FT) (w : World) (hm : 0 ≤ maxLen) (hf : SrcC w none (0 * 5) (MFFlight M)) (hs : ∀ i, i < 0 → ((M i).2.2.2.1).size ≤ maxLen) (h : netB nx M 0 = true) (hi : ¬ (0 ≤ i ∧ i < (0 : Int))) :
    Calls Try.prog 7 #[.agg #[.int .i64 nx, .slice none 0 0], .int .i64 i] w fun e w' => ∃ a' c', e = .returned (.tuple #[.agg #[.int .i64 nx, .slice a' 0 c'], .agg #[.int .i64 0, .int .i64 0, .int .i64 0, .string ⟨#[]⟩, .int .i64 0], .int .i64 2]) ∧ w'.ownsRow w.heap.size 30 5 (.slice a' 0 c') 0 (frow M 0) ∧ Below w.heap.size w w' := by
  have hn40 := netB_n h
  have N := ((NB.new w nx none 0 0 26).below (Below.nw _ (.cells #[.int .i64 0, .slice none 0 0] 26))).below (Below.nw _ (.cells #[.int .i64 0, .int .i64 0, .int .i64 0, .string ⟨#[]⟩, .int .i64 0] 30))
  have R1 := (B2.new (w.alloc (.cells #[.int .i64 nx, .slice none 0 0] 26)) (.int .i64 0) (.slice none 0 0) 26).below (Below.nw _ (.cells #[.int .i64 0, .int .i64 0, .int .i64 0, .string ⟨#[]⟩, .int .i64 0] 30))
  have R2 := F5.new ((w.alloc (.cells #[.int .i64 nx, .slice none 0 0] 26)).alloc (.cells #[.int .i64 0, .slice none 0 0] 26)) 0 0 0 ⟨#[]⟩ 0 30
  have A1 := Below.nw w (.cells #[.int .i64 nx, .slice none 0 0] 26)
  have A2 := A1.alloc A1.size (.cells #[.int .i64 0, .slice none 0 0] 26)
  have B := A2.alloc A2.size (.cells #[.int .i64 0, .int .i64 0, .int .i64 0, .string ⟨#[]⟩, .int .i64 0] 30)
  have CO := fun w' (h' : SrcC w' none (0 * 5) (MFFlight M)) => specNetOk_any nx none 0 0 M w' hm h' hs
  rw [h] at CO
  have CS := hf.below B
  simp only [World.size_alloc] at R1 R2
  clear hf A1 A2 h
  go_enter Try.func7, Try.ntmps7
  go_wp2_with fail
  refine (CO _ CS).mono ?_
  rintro e v ⟨rfl, hb⟩
  replace B := B.trans (hb.mono B.size)
  replace N := N.below hb
  replace R1 := R1.below hb
  replace R2 := R2.below hb
  replace CS := CS.below hb
  clear hb CO
  obtain ⟨n0, n1, n2⟩ := id N
  by_cases hi0 : i < 0
  · have d1 : decide (i < 0) = true := decide_eq_true hi0
    go_wp2_with fail
    refine (l5Copy_nil nx M v).mono ?_
    rintro e v2 ⟨a', c', rfl, O2, hb⟩
    replace B := B.trans (hb.mono B.size)
    have hv2 : w.heap.size + 1 + 1 < v.heap.size := R2.1
    obtain ⟨r0, r1, r2, r3, r4⟩ := R1.below hb
    obtain ⟨f0, f1, f2, f3, f4, f5, f6, f7, f8, f9, f10⟩ := R2.below hb
    clear hb CS R1 R2 N n0 n1 n2
    go_wp2_with fail
    have PB1 := ((But.refl (w.heap.size + 1) v2).setCell 0 (.int .i64 nx)).setCell 1 (.slice a' 0 c')
    have PB2 := put5_but ((v2.setCell ⟨w.heap.size + 1, 0, none⟩ (.int .i64 nx)).setCell ⟨w.heap.size + 1, 1, none⟩ (.slice a' 0 c')) (w.heap.size + 1 + 1) 0 (.int .i64 0) (.int .i64 0) (.int .i64 0) (.string ⟨#[]⟩) (.int .i64 0)
    exact bodyPost_ret (v := .tuple #[.agg #[.int .i64 nx, .slice a' 0 c'], .agg #[.int .i64 0, .int .i64 0, .int .i64 0, .string ⟨#[]⟩, .int .i64 0], .int .i64 2]) (by simp (maxDischargeDepth := 6) [results, Try.results7, go_sem, *]) rfl ⟨a', c', rfl, ownB_le (own_butF (own_butF O2 PB1 (by omega)) PB2 (by omega)) (by omega), (B.trans (PB1.below (by omega) B.size)).trans (PB2.below (by omega) (B.trans (PB1.below (B := w.heap.size) (by omega) B.size)).size)⟩
  · have d1 : decide (i < 0) = false := decide_eq_false hi0
    have d2 : decide ((0 : Int) ≤ i) = true := decide_eq_true (by omega)
    go_wp2_with fail
    refine (l5Copy_nil nx M v).mono ?_
    rintro e v2 ⟨a', c', rfl, O2, hb⟩
    replace B := B.trans (hb.mono B.size)
    have hv2 : w.heap.size + 1 + 1 < v.heap.size := R2.1
    obtain ⟨r0, r1, r2, r3, r4⟩ := R1.below hb
    obtain ⟨f0, f1, f2, f3, f4, f5, f6, f7, f8, f9, f10⟩ := R2.below hb
    clear hb CS R1 R2 N n0 n1 n2
    go_wp2_with fail
    have PB1 := ((But.refl (w.heap.size + 1) v2).setCell 0 (.int .i64 nx)).setCell 1 (.slice a' 0 c')
    have PB2 := put5_but ((v2.setCell ⟨w.heap.size + 1, 0, none⟩ (.int .i64 nx)).setCell ⟨w.heap.size + 1, 1, none⟩ (.slice a' 0 c')) (w.heap.size + 1 + 1) 0 (.int .i64 0) (.int .i64 0) (.int .i64 0) (.string ⟨#[]⟩) (.int .i64 0)
    exact bodyPost_ret (v := .tuple #[.agg #[.int .i64 nx, .slice a' 0 c'], .agg #[.int .i64 0, .int .i64 0, .int .i64 0, .string ⟨#[]⟩, .int .i64 0], .int .i64 2]) (by simp (maxDischargeDepth := 6) [results, Try.results7, go_sem, *]) rfl ⟨a', c', rfl, ownB_le (own_butF (own_butF O2 PB1 (by omega)) PB2 (by omega)) (by omega), (B.trans (PB1.below (by omega) B.size)).trans (PB2.below (by omega) (B.trans (PB1.below (B := w.heap.size) (by omega) B.size)).size)⟩
set_option maxHeartbeats 4000000 in
theorem implNetTake0_bad (nx i : Int) (a0 : Option Addr) (n c : Nat) (M : Nat → FT) (w : World) (hm : n ≤ maxLen) (hf : SrcC w a0 (n * 5) (MFFlight M)) (hs : ∀ i, i < n → ((M i).2.2.2.1).size ≤ maxLen) (hw : ∀ i, i < n → (Lit.int .i64 (M i).1).wf = true) (h : netB nx M n = false) :
    Calls Try.prog 8 #[.agg #[.int .i64 nx, .slice a0 n c], .int .i64 i] w fun e w' => e = .returned (.tuple #[.agg #[.int .i64 0, .slice none 0 0], .agg #[.int .i64 0, .int .i64 0, .int .i64 0, .string ⟨#[]⟩, .int .i64 0], .int .i64 1]) ∧ Below w.heap.size w w' := by
  have N := ((NB.new w nx a0 n c 26).below (Below.nw _ (.cells #[.int .i64 0, .slice none 0 0] 26))).below (Below.nw _ (.cells #[.int .i64 0, .int .i64 0, .int .i64 0, .string ⟨#[]⟩, .int .i64 0] 30))
  have R1 := (B2.new (w.alloc (.cells #[.int .i64 nx, .slice a0 n c] 26)) (.int .i64 0) (.slice none 0 0) 26).below (Below.nw _ (.cells #[.int .i64 0, .int .i64 0, .int .i64 0, .string ⟨#[]⟩, .int .i64 0] 30))
  have R2 := F5.new ((w.alloc (.cells #[.int .i64 nx, .slice a0 n c] 26)).alloc (.cells #[.int .i64 0, .slice none 0 0] 26)) 0 0 0 ⟨#[]⟩ 0 30
  have A1 := Below.nw w (.cells #[.int .i64 nx, .slice a0 n c] 26)
  have A2 := A1.alloc A1.size (.cells #[.int .i64 0, .slice none 0 0] 26)
  have B := A2.alloc A2.size (.cells #[.int .i64 0, .int .i64 0, .int .i64 0, .string ⟨#[]⟩, .int .i64 0] 30)
  have CO := fun w' (h' : SrcC w' a0 (n * 5) (MFFlight M)) => mailOf_any nx a0 n c M w' hm h' hs hw
  have CS := hf.below B
  simp only [World.size_alloc] at R1 R2
  clear hf A1 A2
  go_enter Try.func8, Try.ntmps8
  go_wp2_with fail
  refine (CO _ CS).mono ?_
  rintro e v ⟨V, rfl, q0, q1, hb⟩
  have hbs := hb.size
  simp at hbs
  replace B := B.trans (hb.mono B.size)
  replace R1 := R1.below hb
  replace R2 := R2.below hb
  clear CO CS N
  have hV := q0 h
  subst hV
  rw [h]
  clear q0 q1 hb
  unfold zml
  have A4 := Below.nw v (.cells #[.int .i64 0, .map none, .slice none 0 0] 44)
  replace B := B.trans (A4.mono B.size)
  obtain ⟨r0, r1, r2, r3, r4⟩ := R1.below A4
  obtain ⟨f0, f1, f2, f3, f4, f5, f6, f7, f8, f9, f10⟩ := R2.below A4
  clear A4 R1 R2
  go_wp2_with fail
  generalize v.alloc (.cells #[.int .i64 0, .map none, .slice none 0 0] 44) = v4 at *
  have PB1 := ((But.refl (w.heap.size + 1) v4).setCell 0 (.int .i64 0)).setCell 1 (.slice none 0 0)
  have PB2 := put5_but ((v4.setCell ⟨w.heap.size + 1, 0, none⟩ (.int .i64 0)).setCell ⟨w.heap.size + 1, 1, none⟩ (.slice none 0 0)) (w.heap.size + 1 + 1) 0 (.int .i64 0) (.int .i64 0) (.int .i64 0) (.string ⟨#[]⟩) (.int .i64 0)
  exact bodyPost_ret (v := .tuple #[.agg #[.int .i64 0, .slice none 0 0], .agg #[.int .i64 0, .int .i64 0, .int .i64 0, .string ⟨#[]⟩, .int .i64 0], .int .i64 1]) (by simp (maxDischargeDepth := 6) [results, Try.results8, go_sem, *]) rfl ⟨rfl, (B.trans (PB1.below (by omega) B.size)).trans (PB2.below (by omega) (B.trans (PB1.below (B := w.heap.size) (by omega) B.size)).size)⟩
set_option maxHeartbeats 4000000 in
theorem implNetTake0_none (nx i : Int) (a0 : Option Addr) (n c : Nat) (M : Nat → FT) (w : World) (hm : n ≤ maxLen) (hf : SrcC w a0 (n * 5) (MFFlight M)) (hs : ∀ i, i < n → ((M i).2.2.2.1).size ≤ maxLen) (hw : ∀ i, i < n → (Lit.int .i64 (M i).1).wf = true) (h : netB nx M n = true) (hi : ¬ (0 ≤ i ∧ i < (n : Int))) :
    Calls Try.prog 8 #[.agg #[.int .i64 nx, .slice a0 n c], .int .i64 i] w fun e w' => ∃ g, e = .returned (.tuple #[.agg #[.int .i64 nx, .slice (some ⟨g, 0, none⟩) n n], .agg #[.int .i64 0, .int .i64 0, .int .i64 0, .string ⟨#[]⟩, .int .i64 0], .int .i64 2]) ∧ w.heap.size ≤ g ∧ RowF w' g 30 (n * 5) (n * 5) (MFFlight M) ∧ Below w.heap.size w w' := by
  have hn40 := netB_n h
  have N := ((NB.new w nx a0 n c 26).below (Below.nw _ (.cells #[.int .i64 0, .slice none 0 0] 26))).below (Below.nw _ (.cells #[.int .i64 0, .int .i64 0, .int .i64 0, .string ⟨#[]⟩, .int .i64 0] 30))
  have R1 := (B2.new (w.alloc (.cells #[.int .i64 nx, .slice a0 n c] 26)) (.int .i64 0) (.slice none 0 0) 26).below (Below.nw _ (.cells #[.int .i64 0, .int .i64 0, .int .i64 0, .string ⟨#[]⟩, .int .i64 0] 30))
  have R2 := F5.new ((w.alloc (.cells #[.int .i64 nx, .slice a0 n c] 26)).alloc (.cells #[.int .i64 0, .slice none 0 0] 26)) 0 0 0 ⟨#[]⟩ 0 30
  have A1 := Below.nw w (.cells #[.int .i64 nx, .slice a0 n c] 26)
  have A2 := A1.alloc A1.size (.cells #[.int .i64 0, .slice none 0 0] 26)
  have B := A2.alloc A2.size (.cells #[.int .i64 0, .int .i64 0, .int .i64 0, .string ⟨#[]⟩, .int .i64 0] 30)
  have CO := fun w' (h' : SrcC w' a0 (n * 5) (MFFlight M)) => mailOf_any nx a0 n c M w' hm h' hs hw
  have CS := hf.below B
  simp only [World.size_alloc] at R1 R2
  clear hf A1 A2
  go_enter Try.func8, Try.ntmps8
  go_wp2_with fail
  refine (CO _ CS).mono ?_
  rintro e v ⟨V, rfl, q0, q1, hb⟩
  have hbs := hb.size
  simp at hbs
  replace B := B.trans (hb.mono B.size)
  replace R1 := R1.below hb
  replace R2 := R2.below hb
  clear CO CS N
  obtain ⟨bm, br, rfl, _, _, hne, MP, RW⟩ := q1 h
  rw [h]
  have HG := lk_mine (netB_nOk h)
  clear q0 q1 hb
  have A4 := Below.nw v (.cells #[.int .i64 nx, .map (some bm), .slice (some ⟨br, 0, none⟩) n n] 44)
  replace B := B.trans (A4.mono B.size)
  replace R1 := R1.below A4
  replace R2 := R2.below A4
  have X := MB.new v (.int .i64 nx) (.map (some bm)) (.slice (some ⟨br, 0, none⟩) n n) 44
  replace MP := MP.below A4
  replace RW := RowF.below' A4 RW
  have CH := fun w' => mailHas_any nx i bm br n w' hn40
  rw [decide_eq_false hi] at CH
  clear A4
  obtain ⟨k0, k1, k2, k3, k4, k5, k6⟩ := id X
  go_wp2_with fail
  refine (CH _).mono ?_
  rintro e v3 ⟨rfl, hb⟩
  replace B := B.trans (hb.mono B.size)
  replace R1 := R1.below hb
  replace R2 := R2.below hb
  replace X := X.below hb
  replace MP := MP.below hb
  replace RW := RowF.below' hb RW
  clear hb CH k0 k1 k2 k3 k4 k5 k6
  obtain ⟨k0, k1, k2, k3, k4, k5, k6⟩ := id X
  go_wp2_with fail
  refine (mailNet_any nx bm br n n (lk M n) M _ hn40 MP RW HG hw).mono ?_
  rintro e v4 ⟨g, rfl, hg, RG, hb⟩
  have hg2 : w.heap.size + 1 + 1 < g := Nat.lt_of_lt_of_le R2.1 hg
  replace B := B.trans (hb.mono B.size)
  obtain ⟨r0, r1, r2, r3, r4⟩ := R1.below hb
  obtain ⟨f0, f1, f2, f3, f4, f5, f6, f7, f8, f9, f10⟩ := R2.below hb
  clear hb R1 R2 X MP RW k0 k1 k2 k3 k4 k5 k6 HG
  go_wp2_with fail
  have PB1 := ((But.refl (w.heap.size + 1) v4).setCell 0 (.int .i64 nx)).setCell 1 (.slice (some ⟨g, 0, none⟩) n n)
  have PB2 := put5_but ((v4.setCell ⟨w.heap.size + 1, 0, none⟩ (.int .i64 nx)).setCell ⟨w.heap.size + 1, 1, none⟩ (.slice (some ⟨g, 0, none⟩) n n)) (w.heap.size + 1 + 1) 0 (.int .i64 0) (.int .i64 0) (.int .i64 0) (.string ⟨#[]⟩) (.int .i64 0)
  exact bodyPost_ret (v := .tuple #[.agg #[.int .i64 nx, .slice (some ⟨g, 0, none⟩) n n], .agg #[.int .i64 0, .int .i64 0, .int .i64 0, .string ⟨#[]⟩, .int .i64 0], .int .i64 2]) (by simp (maxDischargeDepth := 6) [results, Try.results8, go_sem, *]) rfl ⟨g, rfl, by omega, (RG.but PB1 (by omega)).but PB2 (by omega), (B.trans (PB1.below (by omega) B.size)).trans (PB2.below (by omega) (B.trans (PB1.below (B := w.heap.size) (by omega) B.size)).size)⟩
end Go.Proofs.Ytfdcjfebfbpliaa
