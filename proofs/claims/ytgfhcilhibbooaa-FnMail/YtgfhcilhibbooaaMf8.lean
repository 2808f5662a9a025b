/- Taking a flight out of a net whose list may be nil. What NetSend tells, in one statement for each side. Contracts of NetDouble. What NetMove tells, in one statement for each side. Numbers of FnMail: what is doubled and dropped, moved and moved back. What NetCut leaves; the contract of spec.NetCut. The contract of impl.NetCut. The contract of laws.sameFlights. -/
import Derived.Test.YtgfhcilhibbooaaMf7
import Derived.Laws.AppendOwnNone
import Derived.Deep.RegionHeld3
import Derived.Deep.DeepCutAuto
import Derived.WalkKit
import Derived.WalkSpells
import Derived.WalkLawsBesides
import Derived.Deep.RegionHeld
import Derived.Test.YtgfhcilhibbooaaMf4
import Derived.Deep.QuietTactic
import Derived.BigQuiet
namespace Go.Proofs.Ytgfhcilhibbooaa
open Go.RowKit
set_option linter.unusedVariables false
theorem wp_append_noneF {P : Program} {w : World} {o : Oper} {a : Act} {K : Act → World → Prop} {Q : Exit → Act → World → Prop} (s x : Operand) (t : TypeId)
    (ho : o.op = .call { callee := .builtin .append, args := #[s, x], argTypes := #[t, t] })
    (base : Nat) (e : TypeId) (i : TypeInfo) (size : Nat) (ht : P.underlying t = some (.slice e)) (hi : P.info? e = some i)
    (v : Value) (n : Nat) (xs : List Value) (hs : a.eval s = v) (hown : w.ownsRow base e size v n xs) (hx : a.eval x = .slice none 0 0)
    (h : K (a.put o.dst v) w) : o.wp P a w K Q := by
  have hrun := run_append_owned_none (P := P) (w := w) base t o.type e i size ht hi v n xs hown
  unfold Oper.wp
  simp [execOp, ho, resolve, invoke, builtin, hs, hx, hrun, Result.andThen]
  exact h
set_option maxRecDepth 100000 in
set_option maxHeartbeats 4000000 in
theorem l5Copy_nil (nx : Int) (M : Nat → FT) (w : World) :
    Calls Try.prog 22 #[.agg #[.int .i64 nx, .slice none 0 0]] w fun e w' => ∃ a' c', e = .returned (.agg #[.int .i64 nx, .slice a' 0 c']) ∧ w'.ownsRow w.heap.size 30 5 (.slice a' 0 c') 0 (frow M 0) ∧ Below w.heap.size w w' := by
  obtain ⟨i0, hi, hz0, hz1, hz2⟩ := infoF_parts
  have N := (NB.new w nx none 0 0 26).below (Below.nw _ (.cells #[.int .i64 0, .slice none 0 0] 26))
  have R := B2.new (w.alloc (.cells #[.int .i64 nx, .slice none 0 0] 26)) (.int .i64 0) (.slice none 0 0) 26
  have A1 := Below.nw w (.cells #[.int .i64 nx, .slice none 0 0] 26)
  have B := A1.alloc A1.size (.cells #[.int .i64 0, .slice none 0 0] 26)
  simp only [World.size_alloc] at R
  clear A1
  go_enter Try.func22, Try.ntmps22
  go_wp2_with fail
  generalize (w.alloc (.cells #[.int .i64 nx, .slice none 0 0] 26)).alloc (.cells #[.int .i64 0, .slice none 0 0] 26) = v at *
  obtain ⟨n0, n1, n2⟩ := id N
  obtain ⟨r0, r1, r2, r3, r4⟩ := id R
  refine wp_region_held_drew (S := (fun w' => w'.cell? ⟨w.heap.size, 0, none⟩ = some (.int .i64 nx) ∧ w'.cell? ⟨w.heap.size, 1, none⟩ = some (.slice none 0 0))) (by kernel_rfl) ?_ (fun hHeld => ?_)
  · first | exact ⟨n1, n2⟩ | (simp (maxDischargeDepth := 6) [go_sem, *]; done)
  clear n0 n1 n2 r0 r1 r2 r3 r4
  replace N := N.drew
  replace R := R.drew
  replace B := Below.drew B
  generalize v.drew = v at *
  (obtain ⟨n0, n1, n2⟩ := id N); (obtain ⟨r0, r1, r2, r3, r4⟩ := id R)
  refine wpAnyH_take (i := 0) (v := ?_) (by rw [List.getElem?_toArray]; rfl) (by kernel_rfl) (by kernel_rfl) (by kernel_rfl) (by intro _ _ _ h; exact h) (Or.inl ⟨by rfl, ?_⟩) (by assumption) ?_
  rotate_left
  · (intro w hSw; (try dsimp only at hSw); go_simp; all_goals with_reducible rfl)
  (try simp only [Act.put, List.setIfInBounds_toArray, List.set_cons_zero, List.set_cons_succ])
  refine wpAnyH_take (i := 1) (v := ?_) (by rw [List.getElem?_toArray]; rfl) (by kernel_rfl) (by kernel_rfl) (by kernel_rfl) (by intro _ _ _ h; exact h) (Or.inl ⟨by rfl, ?_⟩) (by assumption) ?_
  rotate_left
  · (intro w hSw; (try dsimp only at hSw); go_simp; all_goals with_reducible rfl)
  (try simp only [Act.put, List.setIfInBounds_toArray, List.set_cons_zero, List.set_cons_succ])
  refine wpAnyH_take (i := 3) (v := ?_) (by rw [List.getElem?_toArray]; rfl) (by kernel_rfl) (by kernel_rfl) (by kernel_rfl) (by intro _ _ _ h; exact h) (Or.inl ⟨by rfl, ?_⟩) (by assumption) ?_
  rotate_left
  · (intro w hSw; (try dsimp only at hSw); go_simp; all_goals with_reducible rfl)
  (try simp only [Act.put, List.setIfInBounds_toArray, List.set_cons_zero, List.set_cons_succ])
  refine wpAnyH_take (i := 4) (v := ?_) (by rw [List.getElem?_toArray]; rfl) (by kernel_rfl) (by kernel_rfl) (by kernel_rfl) (by intro _ _ _ h; exact h) (Or.inl ⟨by rfl, ?_⟩) (by assumption) ?_
  rotate_left
  · (intro w hSw; (try dsimp only at hSw); go_simp; all_goals with_reducible rfl)
  (try simp only [Act.put, List.setIfInBounds_toArray, List.set_cons_zero, List.set_cons_succ])
  refine wpAnyH_ready (rs := [2]) (by kernel_rfl) (by simp) ?_
  refine (AllReadyH.cons (by rw [List.getElem?_toArray]; rfl) (fun K hK => ?_) AllReadyH.nil)
  go_simp
  (have hvz : w.heap.size + 2 ≤ v.heap.size := r0); (have O := World.ownsRow_made (base := w.heap.size + 2) (size := 5) (e := 30) v #[] 0 hvz (by simp [maxLen]) (by simp)); (have A := Below.nw v (.cells #[] 30)); clear n0 n1 n2 r0 r1 r2 r3 r4; (replace N := N.below A); (replace R := R.below A); (replace B := B.trans (A.mono B.size)); (have hsz : w.heap.size + 2 ≤ (v.alloc (.cells #[] 30)).heap.size := Nat.le_trans hvz A.size); clear A; (generalize v.alloc (.cells #[] 30) = v2 at *); (obtain ⟨n0, n1, n2⟩ := id N); (obtain ⟨r0, r1, r2, r3, r4⟩ := id R)
  refine hK.out _ _ ?_ (fun hHeld => ?_)
  · first | exact ⟨n1, n2⟩ | (simp (maxDischargeDepth := 6) [go_sem, *]; done)
  clear hK K
  (try simp only [Act.put, List.setIfInBounds_toArray, List.set_cons_zero, List.set_cons_succ])
  refine wpAnyH_ready (rs := [5]) (by kernel_rfl) (by simp) ?_
  refine (AllReadyH.cons (by rw [List.getElem?_toArray]; rfl) (fun K hK => ?_) AllReadyH.nil)
  rw [if_pos (by rfl)]; refine wp_append_noneF _ _ 24 rfl (w.heap.size + 2) 30 i0 5 Try.underlying24 hi _ 0 _ rfl O rfl ?_; (have hown' := O); clear n0 n1 n2 r0 r1 r2 r3 r4; (obtain ⟨n0, n1, n2⟩ := id N); (obtain ⟨r0, r1, r2, r3, r4⟩ := id R)
  refine hK.out _ _ ?_ (fun hHeld => ?_)
  · first | exact ⟨n1, n2⟩ | (simp (maxDischargeDepth := 6) [go_sem, *]; done)
  clear hK K
  (try simp only [Act.put, List.setIfInBounds_toArray, List.set_cons_zero, List.set_cons_succ])
  refine wpAnyH_take (i := 6) (v := ?_) (by rw [List.getElem?_toArray]; rfl) (by kernel_rfl) (by kernel_rfl) (by kernel_rfl) (by intro _ _ _ h; exact h) (Or.inl ⟨by rfl, ?_⟩) (by assumption) ?_
  rotate_left
  · (intro w hSw; (try dsimp only at hSw); go_simp; all_goals with_reducible rfl)
  (try simp only [Act.put, List.setIfInBounds_toArray, List.set_cons_zero, List.set_cons_succ])
  refine wpAnyH_ready (rs := [7]) (by kernel_rfl) (by simp) ?_
  refine (AllReadyH.cons (by rw [List.getElem?_toArray]; rfl) (fun K hK => ?_) AllReadyH.nil)
  go_simp
  refine hK.out _ _ ?_ (fun hHeld => ?_)
  · first | exact ⟨n1, n2⟩ | (simp (maxDischargeDepth := 6) [go_sem, *]; done)
  clear hK K
  (try simp only [Act.put, List.setIfInBounds_toArray, List.set_cons_zero, List.set_cons_succ])
  refine wpAnyH_done (by kernel_rfl) ?_ _
  go_wp2_with fail
  have PB := ((But.refl (w.heap.size + 1) v2).setCell 0 (.int .i64 nx)).setCell 1 (.slice (some ⟨v.heap.size, 0, none⟩) 0 0)
  exact bodyPost_ret (v := .agg #[.int .i64 nx, .slice (some ⟨v.heap.size, 0, none⟩) 0 0]) (by simp (maxDischargeDepth := 6) [results, Try.results22, go_sem, *]) rfl ⟨_, _, rfl, ownB_le (own_butF hown' PB (by omega)) (by omega), B.trans (PB.below (by omega) B.size)⟩
set_option maxHeartbeats 4000000 in
theorem specNetTake0_bad (nx i : Int) (a0 : Option Addr) (n c : Nat) (M : Nat → FT) (w : World) (hm : n ≤ maxLen) (hf : SrcC w a0 (n * 5) (MFFlight M)) (hs : ∀ i, i < n → ((M i).2.2.2.1).size ≤ maxLen) (h : netB nx M n = false) :
    Calls Try.prog 7 #[.agg #[.int .i64 nx, .slice a0 n c], .int .i64 i] w fun e w' => e = .returned (.tuple #[.agg #[.int .i64 0, .slice none 0 0], .agg #[.int .i64 0, .int .i64 0, .int .i64 0, .string ⟨#[]⟩, .int .i64 0], .int .i64 1]) ∧ Below w.heap.size w w' := by
  have R1 := (B2.new (w.alloc (.cells #[.int .i64 nx, .slice a0 n c] 26)) (.int .i64 0) (.slice none 0 0) 26).below (Below.nw _ (.cells #[.int .i64 0, .int .i64 0, .int .i64 0, .string ⟨#[]⟩, .int .i64 0] 30))
  have R2 := F5.new ((w.alloc (.cells #[.int .i64 nx, .slice a0 n c] 26)).alloc (.cells #[.int .i64 0, .slice none 0 0] 26)) 0 0 0 ⟨#[]⟩ 0 30
  have A1 := Below.nw w (.cells #[.int .i64 nx, .slice a0 n c] 26)
  have A2 := A1.alloc A1.size (.cells #[.int .i64 0, .slice none 0 0] 26)
  have B := A2.alloc A2.size (.cells #[.int .i64 0, .int .i64 0, .int .i64 0, .string ⟨#[]⟩, .int .i64 0] 30)
  have CO := fun w' (h' : SrcC w' a0 (n * 5) (MFFlight M)) => specNetOk_any nx a0 n c M w' hm h' hs
  rw [h] at CO
  have CS := hf.below B
  simp only [World.size_alloc] at R1 R2
  clear hf A1 A2 h
  go_enter Try.func7, Try.ntmps7
  go_wp2_with fail
  refine (CO _ CS).mono ?_
  rintro e v ⟨rfl, hb⟩
  replace B := B.trans (hb.mono B.size)
  obtain ⟨r0, r1, r2, r3, r4⟩ := R1.below hb
  obtain ⟨f0, f1, f2, f3, f4, f5, f6, f7, f8, f9, f10⟩ := R2.below hb
  clear hb CO CS R1 R2
  go_wp2
  have PB1 := ((But.refl (w.heap.size + 1) v).setCell 0 (.int .i64 0)).setCell 1 (.slice none 0 0)
  have PB2 := put5_but ((v.setCell ⟨w.heap.size + 1, 0, none⟩ (.int .i64 0)).setCell ⟨w.heap.size + 1, 1, none⟩ (.slice none 0 0)) (w.heap.size + 1 + 1) 0 (.int .i64 0) (.int .i64 0) (.int .i64 0) (.string ⟨#[]⟩) (.int .i64 0)
  exact bodyPost_ret (v := .tuple #[.agg #[.int .i64 0, .slice none 0 0], .agg #[.int .i64 0, .int .i64 0, .int .i64 0, .string ⟨#[]⟩, .int .i64 0], .int .i64 1]) (by simp (maxDischargeDepth := 6) [results, Try.results7, go_sem, *]) rfl ⟨rfl, (B.trans (PB1.below (by omega) B.size)).trans (PB2.below (by omega) (B.trans (PB1.below (B := w.heap.size) (by omega) B.size)).size)⟩
set_option maxHeartbeats 4000000 in
theorem specNetTake_nil (nx i : Int) (M : Nat → FT) (w : World) (hm : 0 ≤ maxLen) (hf : SrcC w none (0 * 5) (MFFlight M)) (hs : ∀ i, i < 0 → ((M i).2.2.2.1).size ≤ maxLen) (h : netB nx M 0 = true) (hi : ¬ (0 ≤ i ∧ i < (0 : Int))) :
    Calls Try.prog 7 #[.agg #[.int .i64 nx, .slice none 0 0], .int .i64 i] w fun e w' => ∃ a' c', e = .returned (.tuple #[.agg #[.int .i64 nx, .slice a' 0 c'], .agg #[.int .i64 0, .int .i64 0, .int .i64 0, .string ⟨#[]⟩, .int .i64 0], .int .i64 2]) ∧ w'.ownsRow w.heap.size 30 5 (.slice a' 0 c') 0 (frow M 0) ∧ Below w.heap.size w w' := by
  have hn40 := netB_n h
  have N := ((NB.new w nx none 0 0 26).below (Below.nw _ (.cells #[.int .i64 0, .slice none 0 0] 26))).below (Below.nw _ (.cells #[.int .i64 0, .int .i64 0, .int .i64 0, .string ⟨#[]⟩, .int .i64 0] 30))
  have R1 := (B2.new (w.alloc (.cells #[.int .i64 nx, .slice none 0 0] 26)) (.int .i64 0) (.slice none 0 0) 26).below (Below.nw _ (.cells #[.int .i64 0, .int .i64 0, .int .i64 0, .string ⟨#[]⟩, .int .i64 0] 30))
  have R2 := F5.new ((w.alloc (.cells #[.int .i64 nx, .slice none 0 0] 26)).alloc (.cells #[.int .i64 0, .slice none 0 0] 26)) 0 0 0 ⟨#[]⟩ 0 30
  have A1 := Below.nw w (.cells #[.int .i64 nx, .slice none 0 0] 26)
  have A2 := A1.alloc A1.size (.cells #[.int .i64 0, .slice none 0 0] 26)
  have B := A2.alloc A2.size (.cells #[.int .i64 0, .int .i64 0, .int .i64 0, .string ⟨#[]⟩, .int .i64 0] 30)
  have CO := fun w' (h' : SrcC w' none (0 * 5) (MFFlight M)) => specNetOk_any nx none 0 0 M w' hm h' hs
  rw [h] at CO
  have CS := hf.below B
  simp only [World.size_alloc] at R1 R2
  clear hf A1 A2 h
  go_enter Try.func7, Try.ntmps7
  go_wp2_with fail
  refine (CO _ CS).mono ?_
  rintro e v ⟨rfl, hb⟩
  replace B := B.trans (hb.mono B.size)
  replace N := N.below hb
  replace R1 := R1.below hb
  replace R2 := R2.below hb
  replace CS := CS.below hb
  clear hb CO
  obtain ⟨n0, n1, n2⟩ := id N
  by_cases hi0 : i < 0
  · have d1 : decide (i < 0) = true := decide_eq_true hi0
    go_wp2_with fail
    refine (l5Copy_nil nx M v).mono ?_
    rintro e v2 ⟨a', c', rfl, O2, hb⟩
    replace B := B.trans (hb.mono B.size)
    have hv2 : w.heap.size + 1 + 1 < v.heap.size := R2.1
    obtain ⟨r0, r1, r2, r3, r4⟩ := R1.below hb
    obtain ⟨f0, f1, f2, f3, f4, f5, f6, f7, f8, f9, f10⟩ := R2.below hb
    clear hb CS R1 R2 N n0 n1 n2
    go_wp2_with fail
    have PB1 := ((But.refl (w.heap.size + 1) v2).setCell 0 (.int .i64 nx)).setCell 1 (.slice a' 0 c')
    have PB2 := put5_but ((v2.setCell ⟨w.heap.size + 1, 0, none⟩ (.int .i64 nx)).setCell ⟨w.heap.size + 1, 1, none⟩ (.slice a' 0 c')) (w.heap.size + 1 + 1) 0 (.int .i64 0) (.int .i64 0) (.int .i64 0) (.string ⟨#[]⟩) (.int .i64 0)
    exact bodyPost_ret (v := .tuple #[.agg #[.int .i64 nx, .slice a' 0 c'], .agg #[.int .i64 0, .int .i64 0, .int .i64 0, .string ⟨#[]⟩, .int .i64 0], .int .i64 2]) (by simp (maxDischargeDepth := 6) [results, Try.results7, go_sem, *]) rfl ⟨a', c', rfl, ownB_le (own_butF (own_butF O2 PB1 (by omega)) PB2 (by omega)) (by omega), (B.trans (PB1.below (by omega) B.size)).trans (PB2.below (by omega) (B.trans (PB1.below (B := w.heap.size) (by omega) B.size)).size)⟩
  · have d1 : decide (i < 0) = false := decide_eq_false hi0
    have d2 : decide ((0 : Int) ≤ i) = true := decide_eq_true (by omega)
    go_wp2_with fail
    refine (l5Copy_nil nx M v).mono ?_
    rintro e v2 ⟨a', c', rfl, O2, hb⟩
    replace B := B.trans (hb.mono B.size)
    have hv2 : w.heap.size + 1 + 1 < v.heap.size := R2.1
    obtain ⟨r0, r1, r2, r3, r4⟩ := R1.below hb
    obtain ⟨f0, f1, f2, f3, f4, f5, f6, f7, f8, f9, f10⟩ := R2.below hb
    clear hb CS R1 R2 N n0 n1 n2
    go_wp2_with fail
    have PB1 := ((But.refl (w.heap.size + 1) v2).setCell 0 (.int .i64 nx)).setCell 1 (.slice a' 0 c')
    have PB2 := put5_but ((v2.setCell ⟨w.heap.size + 1, 0, none⟩ (.int .i64 nx)).setCell ⟨w.heap.size + 1, 1, none⟩ (.slice a' 0 c')) (w.heap.size + 1 + 1) 0 (.int .i64 0) (.int .i64 0) (.int .i64 0) (.string ⟨#[]⟩) (.int .i64 0)
    exact bodyPost_ret (v := .tuple #[.agg #[.int .i64 nx, .slice a' 0 c'], .agg #[.int .i64 0, .int .i64 0, .int .i64 0, .string ⟨#[]⟩, .int .i64 0], .int .i64 2]) (by simp (maxDischargeDepth := 6) [results, Try.results7, go_sem, *]) rfl ⟨a', c', rfl, ownB_le (own_butF (own_butF O2 PB1 (by omega)) PB2 (by omega)) (by omega), (B.trans (PB1.below (by omega) B.size)).trans (PB2.below (by omega) (B.trans (PB1.below (B := w.heap.size) (by omega) B.size)).size)⟩
set_option maxHeartbeats 4000000 in
theorem implNetTake0_bad (nx i : Int) (a0 : Option Addr) (n c : Nat) (M : Nat → FT) (w : World) (hm : n ≤ maxLen) (hf : SrcC w a0 (n * 5) (MFFlight M)) (hs : ∀ i, i < n → ((M i).2.2.2.1).size ≤ maxLen) (hw : ∀ i, i < n → (Lit.int .i64 (M i).1).wf = true) (h : netB nx M n = false) :
    Calls Try.prog 8 #[.agg #[.int .i64 nx, .slice a0 n c], .int .i64 i] w fun e w' => e = .returned (.tuple #[.agg #[.int .i64 0, .slice none 0 0], .agg #[.int .i64 0, .int .i64 0, .int .i64 0, .string ⟨#[]⟩, .int .i64 0], .int .i64 1]) ∧ Below w.heap.size w w' := by
  have N := ((NB.new w nx a0 n c 26).below (Below.nw _ (.cells #[.int .i64 0, .slice none 0 0] 26))).below (Below.nw _ (.cells #[.int .i64 0, .int .i64 0, .int .i64 0, .string ⟨#[]⟩, .int .i64 0] 30))
  have R1 := (B2.new (w.alloc (.cells #[.int .i64 nx, .slice a0 n c] 26)) (.int .i64 0) (.slice none 0 0) 26).below (Below.nw _ (.cells #[.int .i64 0, .int .i64 0, .int .i64 0, .string ⟨#[]⟩, .int .i64 0] 30))
  have R2 := F5.new ((w.alloc (.cells #[.int .i64 nx, .slice a0 n c] 26)).alloc (.cells #[.int .i64 0, .slice none 0 0] 26)) 0 0 0 ⟨#[]⟩ 0 30
  have A1 := Below.nw w (.cells #[.int .i64 nx, .slice a0 n c] 26)
  have A2 := A1.alloc A1.size (.cells #[.int .i64 0, .slice none 0 0] 26)
  have B := A2.alloc A2.size (.cells #[.int .i64 0, .int .i64 0, .int .i64 0, .string ⟨#[]⟩, .int .i64 0] 30)
  have CO := fun w' (h' : SrcC w' a0 (n * 5) (MFFlight M)) => mailOf_any nx a0 n c M w' hm h' hs hw
  have CS := hf.below B
  simp only [World.size_alloc] at R1 R2
  clear hf A1 A2
  go_enter Try.func8, Try.ntmps8
  go_wp2_with fail
  refine (CO _ CS).mono ?_
  rintro e v ⟨V, rfl, q0, q1, hb⟩
  have hbs := hb.size
  simp at hbs
  replace B := B.trans (hb.mono B.size)
  replace R1 := R1.below hb
  replace R2 := R2.below hb
  clear CO CS N
  have hV := q0 h
  subst hV
  rw [h]
  clear q0 q1 hb
  unfold zml
  have A4 := Below.nw v (.cells #[.int .i64 0, .map none, .slice none 0 0] 53)
  replace B := B.trans (A4.mono B.size)
  obtain ⟨r0, r1, r2, r3, r4⟩ := R1.below A4
  obtain ⟨f0, f1, f2, f3, f4, f5, f6, f7, f8, f9, f10⟩ := R2.below A4
  clear A4 R1 R2
  go_wp2_with fail
  generalize v.alloc (.cells #[.int .i64 0, .map none, .slice none 0 0] 53) = v4 at *
  have PB1 := ((But.refl (w.heap.size + 1) v4).setCell 0 (.int .i64 0)).setCell 1 (.slice none 0 0)
  have PB2 := put5_but ((v4.setCell ⟨w.heap.size + 1, 0, none⟩ (.int .i64 0)).setCell ⟨w.heap.size + 1, 1, none⟩ (.slice none 0 0)) (w.heap.size + 1 + 1) 0 (.int .i64 0) (.int .i64 0) (.int .i64 0) (.string ⟨#[]⟩) (.int .i64 0)
  exact bodyPost_ret (v := .tuple #[.agg #[.int .i64 0, .slice none 0 0], .agg #[.int .i64 0, .int .i64 0, .int .i64 0, .string ⟨#[]⟩, .int .i64 0], .int .i64 1]) (by simp (maxDischargeDepth := 6) [results, Try.results8, go_sem, *]) rfl ⟨rfl, (B.trans (PB1.below (by omega) B.size)).trans (PB2.below (by omega) (B.trans (PB1.below (B := w.heap.size) (by omega) B.size)).size)⟩
set_option maxHeartbeats 4000000 in
theorem implNetTake0_none (nx i : Int) (a0 : Option Addr) (n c : Nat) (M : Nat → FT) (w : World) (hm : n ≤ maxLen) (hf : SrcC w a0 (n * 5) (MFFlight M)) (hs : ∀ i, i < n → ((M i).2.2.2.1).size ≤ maxLen) (hw : ∀ i, i < n → (Lit.int .i64 (M i).1).wf = true) (h : netB nx M n = true) (hi : ¬ (0 ≤ i ∧ i < (n : Int))) :
    Calls Try.prog 8 #[.agg #[.int .i64 nx, .slice a0 n c], .int .i64 i] w fun e w' => ∃ g, e = .returned (.tuple #[.agg #[.int .i64 nx, .slice (some ⟨g, 0, none⟩) n n], .agg #[.int .i64 0, .int .i64 0, .int .i64 0, .string ⟨#[]⟩, .int .i64 0], .int .i64 2]) ∧ w.heap.size ≤ g ∧ RowF w' g 30 (n * 5) (n * 5) (MFFlight M) ∧ Below w.heap.size w w' := by
  have hn40 := netB_n h
  have N := ((NB.new w nx a0 n c 26).below (Below.nw _ (.cells #[.int .i64 0, .slice none 0 0] 26))).below (Below.nw _ (.cells #[.int .i64 0, .int .i64 0, .int .i64 0, .string ⟨#[]⟩, .int .i64 0] 30))
  have R1 := (B2.new (w.alloc (.cells #[.int .i64 nx, .slice a0 n c] 26)) (.int .i64 0) (.slice none 0 0) 26).below (Below.nw _ (.cells #[.int .i64 0, .int .i64 0, .int .i64 0, .string ⟨#[]⟩, .int .i64 0] 30))
  have R2 := F5.new ((w.alloc (.cells #[.int .i64 nx, .slice a0 n c] 26)).alloc (.cells #[.int .i64 0, .slice none 0 0] 26)) 0 0 0 ⟨#[]⟩ 0 30
  have A1 := Below.nw w (.cells #[.int .i64 nx, .slice a0 n c] 26)
  have A2 := A1.alloc A1.size (.cells #[.int .i64 0, .slice none 0 0] 26)
  have B := A2.alloc A2.size (.cells #[.int .i64 0, .int .i64 0, .int .i64 0, .string ⟨#[]⟩, .int .i64 0] 30)
  have CO := fun w' (h' : SrcC w' a0 (n * 5) (MFFlight M)) => mailOf_any nx a0 n c M w' hm h' hs hw
  have CS := hf.below B
  simp only [World.size_alloc] at R1 R2
  clear hf A1 A2
  go_enter Try.func8, Try.ntmps8
  go_wp2_with fail
  refine (CO _ CS).mono ?_
  rintro e v ⟨V, rfl, q0, q1, hb⟩
  have hbs := hb.size
  simp at hbs
  replace B := B.trans (hb.mono B.size)
  replace R1 := R1.below hb
  replace R2 := R2.below hb
  clear CO CS N
  obtain ⟨bm, br, rfl, _, _, hne, MP, RW⟩ := q1 h
  rw [h]
  have HG := lk_mine (netB_nOk h)
  clear q0 q1 hb
  have A4 := Below.nw v (.cells #[.int .i64 nx, .map (some bm), .slice (some ⟨br, 0, none⟩) n n] 53)
  replace B := B.trans (A4.mono B.size)
  replace R1 := R1.below A4
  replace R2 := R2.below A4
  have X := MB.new v (.int .i64 nx) (.map (some bm)) (.slice (some ⟨br, 0, none⟩) n n) 53
  replace MP := MP.below A4
  replace RW := RowF.below' A4 RW
  have CH := fun w' => mailHas_any nx i bm br n w' hn40
  rw [decide_eq_false hi] at CH
  clear A4
  obtain ⟨k0, k1, k2, k3, k4, k5, k6⟩ := id X
  go_wp2_with fail
  refine (CH _).mono ?_
  rintro e v3 ⟨rfl, hb⟩
  replace B := B.trans (hb.mono B.size)
  replace R1 := R1.below hb
  replace R2 := R2.below hb
  replace X := X.below hb
  replace MP := MP.below hb
  replace RW := RowF.below' hb RW
  clear hb CH k0 k1 k2 k3 k4 k5 k6
  obtain ⟨k0, k1, k2, k3, k4, k5, k6⟩ := id X
  go_wp2_with fail
  refine (mailNet_any nx bm br n n (lk M n) M _ hn40 MP RW HG hw).mono ?_
  rintro e v4 ⟨g, rfl, hg, RG, hb⟩
  have hg2 : w.heap.size + 1 + 1 < g := Nat.lt_of_lt_of_le R2.1 hg
  replace B := B.trans (hb.mono B.size)
  obtain ⟨r0, r1, r2, r3, r4⟩ := R1.below hb
  obtain ⟨f0, f1, f2, f3, f4, f5, f6, f7, f8, f9, f10⟩ := R2.below hb
  clear hb R1 R2 X MP RW k0 k1 k2 k3 k4 k5 k6 HG
  go_wp2_with fail
  have PB1 := ((But.refl (w.heap.size + 1) v4).setCell 0 (.int .i64 nx)).setCell 1 (.slice (some ⟨g, 0, none⟩) n n)
  have PB2 := put5_but ((v4.setCell ⟨w.heap.size + 1, 0, none⟩ (.int .i64 nx)).setCell ⟨w.heap.size + 1, 1, none⟩ (.slice (some ⟨g, 0, none⟩) n n)) (w.heap.size + 1 + 1) 0 (.int .i64 0) (.int .i64 0) (.int .i64 0) (.string ⟨#[]⟩) (.int .i64 0)
  exact bodyPost_ret (v := .tuple #[.agg #[.int .i64 nx, .slice (some ⟨g, 0, none⟩) n n], .agg #[.int .i64 0, .int .i64 0, .int .i64 0, .string ⟨#[]⟩, .int .i64 0], .int .i64 2]) (by simp (maxDischargeDepth := 6) [results, Try.results8, go_sem, *]) rfl ⟨g, rfl, by omega, (RG.but PB1 (by omega)).but PB2 (by omega), (B.trans (PB1.below (by omega) B.size)).trans (PB2.below (by omega) (B.trans (PB1.below (B := w.heap.size) (by omega) B.size)).size)⟩
end Go.Proofs.Ytgfhcilhibbooaa
namespace Go.Proofs.Ytgfhcilhibbooaa
open Go.RowKit
set_option linter.unusedVariables false
def SdIs (nx : Int) (M : Nat → FT) (n : Nat) (x1 x2 : Int) (x3 : ByteArray) (x4 : Int) (X : Int) (m : Nat) (G : Nat → FT) (C : Int) : Prop :=
  ((netB nx M n && flB x1 x2 x3 x4) = false ∧ X = 0 ∧ m = 0 ∧ C = 1) ∨ ((netB nx M n && flB x1 x2 x3 x4) = true ∧ (n = 40 ∨ nx = 1000000) ∧ X = nx ∧ m = n ∧ G = M ∧ C = 3) ∨ ((netB nx M n && flB x1 x2 x3 x4) = true ∧ ¬ (n = 40 ∨ nx = 1000000) ∧ X = nx + 1 ∧ m = n + 1 ∧ G = insG M n (nx, x1, x2, x3, x4) ∧ C = 0)
theorem sd_ex (nx : Int) (M : Nat → FT) (n : Nat) (x1 x2 : Int) (x3 : ByteArray) (x4 : Int) : ∃ X m G Y C, (SdIs nx M n x1 x2 x3 x4 X m G C ∧ Y = zF) ∧ m ≤ 41 := by
  cases h : (netB nx M n && flB x1 x2 x3 x4)
  · exact ⟨0, 0, M, zF, 1, ⟨.inl ⟨h, rfl, rfl, rfl⟩, rfl⟩, Nat.zero_le _⟩
  · have hn := netB_n (by rw [Bool.and_eq_true] at h; exact h.1)
    by_cases hi : n = 40 ∨ nx = 1000000
    · exact ⟨nx, n, M, zF, 3, ⟨.inr (.inl ⟨h, hi, rfl, rfl, rfl, rfl⟩), rfl⟩, by omega⟩
    · exact ⟨nx + 1, n + 1, insG M n (nx, x1, x2, x3, x4), zF, 0, ⟨.inr (.inr ⟨h, hi, rfl, rfl, rfl, rfl⟩), rfl⟩, by omega⟩
theorem specNetSend_any (nx : Int) (x1 x2 : Int) (x3 : ByteArray) (x4 : Int) (b n c : Nat) (M : Nat → FT) (X : Int) (m : Nat) (G : Nat → FT) (C : Int) (w : World) (hm : n ≤ maxLen) (hf : Cs w b 0 (n * 5) (MFFlight M)) (hs : ∀ i, i < n → ((M i).2.2.2.1).size ≤ maxLen) (h3 : x3.size ≤ maxLen) (h : SdIs nx M n x1 x2 x3 x4 X m G C) :
    Calls Try.prog 29 #[.agg #[.int .i64 nx, .slice (some ⟨b, 0, none⟩) n c], .int .i64 x1, .int .i64 x2, .string x3, .int .i64 x4] w fun e w' => ∃ a' c', e = .returned (.tuple #[.agg #[.int .i64 X, .slice a' m c'], .int .i64 C]) ∧ w'.ownsRow w.heap.size 30 5 (.slice a' m c') m (frow G m) ∧ Below w.heap.size w w' := by
  rcases h with ⟨h, rfl, rfl, rfl⟩ | ⟨h, hi, rfl, rfl, rfl, rfl⟩ | ⟨h, hi, rfl, rfl, rfl, rfl⟩
  · exact (specNetSend_bad nx x1 x2 x3 x4 b n c M w hm hf hs h3 h).mono fun e w' ⟨h1, h2⟩ => ⟨none, 0, h1, World.ownsRow_nil _ _ _ _, h2⟩
  · rw [Bool.and_eq_true] at h
    exact specNetSend_full X x1 x2 x3 x4 b m c G w hm hf hs h3 h.1 h.2 hi
  · rw [Bool.and_eq_true] at h
    exact specNetSend_done nx x1 x2 x3 x4 b n c M w hm hf hs h3 h.1 h.2 hi _ rfl
end Go.Proofs.Ytgfhcilhibbooaa
namespace Go.Proofs.Ytgfhcilhibbooaa
open Go.RowKit
set_option linter.unusedVariables false
set_option maxHeartbeats 4000000 in
theorem specNetDouble_take (nx i : Int) (b n c : Nat) (M : Nat → FT) (X : Int) (m : Nat) (G : Nat → FT) (y0 y1 y2 : Int) (y3 : ByteArray) (y4 : Int) (C : Int) (w : World) (hm : n ≤ maxLen) (hf : Cs w b 0 (n * 5) (MFFlight M)) (hs : ∀ i, i < n → ((M i).2.2.2.1).size ≤ maxLen) (h : TkIs nx M n i X m G (y0, y1, y2, y3, y4) C) (hC : ¬ C = 0) :
    Calls Try.prog 11 #[.agg #[.int .i64 nx, .slice (some ⟨b, 0, none⟩) n c], .int .i64 i] w fun e w' => ∃ a' c', e = .returned (.tuple #[.agg #[.int .i64 X, .slice a' m c'], .int .i64 C]) ∧ w'.ownsRow w.heap.size 30 5 (.slice a' m c') m (frow G m) ∧ Below w.heap.size w w' := by
  have CT := fun w' (h' : Cs w' b 0 (n * 5) (MFFlight M)) => specNetTake_any nx i b n c M X m G y0 y1 y2 y3 y4 C w' hm h' hs h
  have A1 := Below.nw w (.cells #[.int .i64 nx, .slice (some ⟨b, 0, none⟩) n c] 26)
  have B := A1.alloc A1.size (.cells #[.int .i64 0, .slice none 0 0] 26)
  have N := (NB.new w nx (some ⟨b, 0, none⟩) n c 26).below (Below.nw _ (.cells #[.int .i64 0, .slice none 0 0] 26))
  have R := B2.new (w.alloc (.cells #[.int .i64 nx, .slice (some ⟨b, 0, none⟩) n c] 26)) (.int .i64 0) (.slice none 0 0) 26
  have CS := hf.below B hf.1
  simp only [World.size_alloc] at R
  clear hf hs h A1
  have dC : decide (C = 0) = false := decide_eq_false hC
  go_enter Try.func11, Try.ntmps11
  go_wp2_with fail
  refine (CT _ CS).mono ?_
  rintro e v ⟨a', c', rfl, S0, hb⟩
  replace B := B.trans (hb.mono B.size)
  replace R := R.below hb
  replace N := N.below hb
  replace CS := CS.below hb CS.1
  clear hb S0
  have A2 := Below.nw v (.cells #[.int .i64 X, .slice a' m c'] 26)
  have A3 := Below.nw (v.alloc (.cells #[.int .i64 X, .slice a' m c'] 26)) (.cells #[.int .i64 y0, .int .i64 y1, .int .i64 y2, .string y3, .int .i64 y4] 30)
  replace R := (R.below A2).below A3
  replace N := (N.below A2).below A3
  replace CS := (CS.below A2 CS.1).below A3 (CS.below A2 CS.1).1
  replace B := (B.trans (A2.mono B.size)).trans (A3.mono (B.trans (A2.mono B.size)).size)
  clear A2 A3
  obtain ⟨n0, n1, n2⟩ := id N
  go_wp2_with fail
  generalize (v.alloc (.cells #[.int .i64 X, .slice a' m c'] 26)).alloc (.cells #[.int .i64 y0, .int .i64 y1, .int .i64 y2, .string y3, .int .i64 y4] 30) = v2 at *
  have hv := R.1
  refine (CT _ CS).mono ?_
  rintro e v3 ⟨a2, c2, rfl, O2, hb⟩
  replace B := B.trans (hb.mono B.size)
  replace R := R.below hb
  clear hb N n0 n1 n2 CS CT
  have A2 := Below.nw v3 (.cells #[.int .i64 X, .slice a2 m c2] 26)
  have A3 := Below.nw (v3.alloc (.cells #[.int .i64 X, .slice a2 m c2] 26)) (.cells #[.int .i64 y0, .int .i64 y1, .int .i64 y2, .string y3, .int .i64 y4] 30)
  replace R := (R.below A2).below A3
  replace O2 := own_belowF (own_belowF O2 A2) A3
  replace B := (B.trans (A2.mono B.size)).trans (A3.mono (B.trans (A2.mono B.size)).size)
  have K := (NB.new v3 X a2 m c2 26).below A3
  clear A2 A3
  obtain ⟨k0, k1, k2⟩ := id K
  obtain ⟨r0, r1, r2, r3, r4⟩ := id R
  go_wp2_with fail
  generalize (v3.alloc (.cells #[.int .i64 X, .slice a2 m c2] 26)).alloc (.cells #[.int .i64 y0, .int .i64 y1, .int .i64 y2, .string y3, .int .i64 y4] 30) = v4 at *
  have PB := ((But.refl (w.heap.size + 1) v4).setCell 0 (.int .i64 X)).setCell 1 (.slice a2 m c2)
  exact bodyPost_ret (v := .tuple #[.agg #[.int .i64 X, .slice a2 m c2], .int .i64 C]) (by simp (maxDischargeDepth := 6) [results, Try.results11, go_sem, *]) rfl ⟨a2, c2, rfl, ownB_le (own_butF O2 PB (by omega)) (by omega), B.trans (PB.below (by omega) B.size)⟩
set_option maxHeartbeats 4000000 in
theorem specNetDouble_send (nx i : Int) (b n c : Nat) (M : Nat → FT) (X0 : Int) (m0 : Nat) (G0 : Nat → FT) (y0 y1 y2 : Int) (y3 : ByteArray) (y4 : Int) (X : Int) (m : Nat) (G : Nat → FT) (C : Int) (w : World) (hm : n ≤ maxLen) (hf : Cs w b 0 (n * 5) (MFFlight M)) (hs : ∀ i, i < n → ((M i).2.2.2.1).size ≤ maxLen) (h3 : y3.size ≤ maxLen) (h : TkIs nx M n i X0 m0 G0 (y0, y1, y2, y3, y4) 0) (hS : SdIs nx M n y1 y2 y3 y4 X m G C) :
    Calls Try.prog 11 #[.agg #[.int .i64 nx, .slice (some ⟨b, 0, none⟩) n c], .int .i64 i] w fun e w' => ∃ a' c', e = .returned (.tuple #[.agg #[.int .i64 X, .slice a' m c'], .int .i64 C]) ∧ w'.ownsRow w.heap.size 30 5 (.slice a' m c') m (frow G m) ∧ Below w.heap.size w w' := by
  have CT := fun w' (h' : Cs w' b 0 (n * 5) (MFFlight M)) => specNetTake_any nx i b n c M X0 m0 G0 y0 y1 y2 y3 y4 0 w' hm h' hs h
  have CN := fun w' (h' : Cs w' b 0 (n * 5) (MFFlight M)) => specNetSend_any nx y1 y2 y3 y4 b n c M X m G C w' hm h' hs h3 hS
  have A1 := Below.nw w (.cells #[.int .i64 nx, .slice (some ⟨b, 0, none⟩) n c] 26)
  have B := A1.alloc A1.size (.cells #[.int .i64 0, .slice none 0 0] 26)
  have N := (NB.new w nx (some ⟨b, 0, none⟩) n c 26).below (Below.nw _ (.cells #[.int .i64 0, .slice none 0 0] 26))
  have R := B2.new (w.alloc (.cells #[.int .i64 nx, .slice (some ⟨b, 0, none⟩) n c] 26)) (.int .i64 0) (.slice none 0 0) 26
  have CS := hf.below B hf.1
  simp only [World.size_alloc] at R
  clear hf hs h A1 hS h3
  go_enter Try.func11, Try.ntmps11
  go_wp2_with fail
  refine (CT _ CS).mono ?_
  rintro e v ⟨a', c', rfl, S0, hb⟩
  replace B := B.trans (hb.mono B.size)
  replace R := R.below hb
  replace N := N.below hb
  replace CS := CS.below hb CS.1
  clear hb S0 CT
  have A2 := Below.nw v (.cells #[.int .i64 X0, .slice a' m0 c'] 26)
  have A3 := Below.nw (v.alloc (.cells #[.int .i64 X0, .slice a' m0 c'] 26)) (.cells #[.int .i64 y0, .int .i64 y1, .int .i64 y2, .string y3, .int .i64 y4] 30)
  have P := F5.new (v.alloc (.cells #[.int .i64 X0, .slice a' m0 c'] 26)) y0 y1 y2 y3 y4 30
  simp only [World.size_alloc] at P
  replace R := (R.below A2).below A3
  replace N := (N.below A2).below A3
  replace CS := (CS.below A2 CS.1).below A3 (CS.below A2 CS.1).1
  replace B := (B.trans (A2.mono B.size)).trans (A3.mono (B.trans (A2.mono B.size)).size)
  clear A2 A3
  obtain ⟨n0, n1, n2⟩ := id N
  obtain ⟨p0, p1, p2, p3, p4, p5, p6, p7, p8, p9, p10⟩ := P
  go_wp2_with fail
  generalize (v.alloc (.cells #[.int .i64 X0, .slice a' m0 c'] 26)).alloc (.cells #[.int .i64 y0, .int .i64 y1, .int .i64 y2, .string y3, .int .i64 y4] 30) = v2 at *
  have hv := R.1
  refine (CN _ CS).mono ?_
  rintro e v3 ⟨a2, c2, rfl, O2, hb⟩
  replace B := B.trans (hb.mono B.size)
  obtain ⟨r0, r1, r2, r3, r4⟩ := R.below hb
  clear hb N n0 n1 n2 CS CN R p0 p1 p2 p3 p4 p5 p6 p7 p8 p9 p10
  go_wp2_with fail
  have PB := ((But.refl (w.heap.size + 1) v3).setCell 0 (.int .i64 X)).setCell 1 (.slice a2 m c2)
  exact bodyPost_ret (v := .tuple #[.agg #[.int .i64 X, .slice a2 m c2], .int .i64 C]) (by simp (maxDischargeDepth := 6) [results, Try.results11, go_sem, *]) rfl ⟨a2, c2, rfl, ownB_le (own_butF O2 PB (by omega)) (by omega), B.trans (PB.below (by omega) B.size)⟩
set_option maxHeartbeats 4000000 in
theorem implNetDouble_full (nx : Int) (i : Nat) (x0 x1 x2 : Int) (x3 : ByteArray) (x4 : Int) (b n c : Nat) (M : Nat → FT) (w : World) (hm : n ≤ maxLen) (hf : Cs w b 0 (n * 5) (MFFlight M)) (hs : ∀ i, i < n → ((M i).2.2.2.1).size ≤ maxLen) (hw : ∀ i, i < n → (Lit.int .i64 (M i).1).wf = true) (h : netB nx M n = true) (hin : i < n) (hY : M i = (x0, x1, x2, x3, x4)) (hfu : n = 40 ∨ nx = 1000000) :
    Calls Try.prog 10 #[.agg #[.int .i64 nx, .slice (some ⟨b, 0, none⟩) n c], .int .i64 (i : Int)] w fun e w' => ∃ g, e = .returned (.tuple #[.agg #[.int .i64 nx, .slice (some ⟨g, 0, none⟩) n n], .int .i64 3]) ∧ w.heap.size ≤ g ∧ RowF w' g 30 (n * 5) (n * 5) (MFFlight M) ∧ Below w.heap.size w w' := by
  have hn40 := netB_n h
  have HL : Hid (∀ j, j < n → lk M n (M j).1 = some (M j)) := lk_mine (netB_nOk h)
  have HWF : Hid (∀ j, j < n → (Lit.int .i64 (M j).1).wf = true) := hw
  have R1 := B2.new (w.alloc (.cells #[.int .i64 nx, .slice (some ⟨b, 0, none⟩) n c] 26)) (.int .i64 0) (.slice none 0 0) 26
  have A1 := Below.nw w (.cells #[.int .i64 nx, .slice (some ⟨b, 0, none⟩) n c] 26)
  have B := A1.alloc A1.size (.cells #[.int .i64 0, .slice none 0 0] 26)
  have CO := fun w' (h' : Cs w' b 0 (n * 5) (MFFlight M)) => mailOf_any nx (some ⟨b, 0, none⟩) n c M w' hm (.inr ⟨b, 0, rfl, h'⟩) hs hw
  have CS := hf.below B hf.1
  have hF : lk M n x0 = some (x0, x1, x2, x3, x4) := by
    have q := lk_mine (netB_nOk h) i hin
    rw [hY] at q
    exact q
  have hwi : (Lit.int .i64 x0).wf = true := by have q := hw i hin; rw [hY] at q; exact q
  have HF : Hid (lk M n x0 = some (x0, x1, x2, x3, x4)) := hF
  have HY : Hid (M i = (x0, x1, x2, x3, x4)) := hY
  clear hF hY
  simp only [World.size_alloc] at R1
  clear hf A1
  go_enter Try.func10, Try.ntmps10
  go_wp2_with fail
  refine (CO _ CS).mono ?_
  rintro e v ⟨V, rfl, q0, q1, hb⟩
  replace B := B.trans (hb.mono B.size)
  replace R1 := R1.below hb
  clear CO CS
  obtain ⟨bm, br, rfl, hb1, hb2, hne, MP, RW⟩ := q1 h
  rw [h]
  clear q0 q1 hb h hs hw
  have lm := MP.lt
  have lr := RW.lt
  have A4 := Below.nw v (.cells #[.int .i64 nx, .map (some bm), .slice (some ⟨br, 0, none⟩) n n] 53)
  have X := MB.new v (.int .i64 nx) (.map (some bm)) (.slice (some ⟨br, 0, none⟩) n n) 53
  replace MP := MP.below A4
  replace RW := RowF.below' A4 RW
  replace B := B.trans (A4.mono B.size)
  replace R1 := R1.below A4
  have CH := fun w' => mailHas_any nx (i : Int) bm br n w' hn40
  rw [decide_eq_true (show 0 ≤ (i : Int) ∧ (i : Int) < (n : Int) by omega)] at CH
  clear A4
  obtain ⟨k0, k1, k2, k3, k4, k5, k6⟩ := id X
  go_wp2_with fail
  generalize v.heap.size = jm at *
  refine (CH _).mono ?_
  rintro e v3 ⟨rfl, hb⟩
  replace B := B.trans (hb.mono B.size)
  replace R1 := R1.below hb
  replace X := X.below hb
  replace MP := MP.below hb
  replace RW := RowF.below' hb RW
  clear hb CH k0 k1 k2 k3 k4 k5 k6
  have hce : v3.cell? ⟨br, i, none⟩ = some (.int .i64 x0) := by
    have q := (RW.cs (Nat.le_refl _)).2 i hin
    rw [Nat.zero_add] at q
    rw [q, idF, HY.out]
  obtain ⟨k0, k1, k2, k3, k4, k5, k6⟩ := id X
  go_wp2_with fail
  refine (mailAt_any nx bm br n n i (lk M n) x0 x1 x2 x3 x4 _ hn40 hin MP RW.lt hce hwi HF.out).mono ?_
  rintro e v4 ⟨rfl, hb⟩
  replace B := B.trans (hb.mono B.size)
  replace R1 := R1.below hb
  replace X := X.below hb
  replace MP := MP.below hb
  replace RW := RowF.below' hb RW
  clear hb k0 k1 k2 k3 k4 k5 k6 hce
  go_wp2_with fail
  refine (mailSend_full nx jm bm br n x0 x1 x2 x3 x4 _ hn40 X hfu).mono ?_
  rintro e v5 ⟨rfl, hb⟩
  replace B := B.trans (hb.mono B.size)
  replace R1 := R1.below hb
  replace X := X.below hb
  replace MP := MP.below hb
  replace RW := RowF.below' hb RW
  clear hb hfu
  obtain ⟨k0, k1, k2, k3, k4, k5, k6⟩ := id X
  go_wp2_with fail
  refine (mailNet_any nx bm br n n (lk M n) M _ hn40 MP RW HL.out HWF.out).mono ?_
  rintro e v6 ⟨g6, rfl, hg6, R6, hb⟩
  have hv5 := B.size
  replace B := B.trans (hb.mono B.size)
  have hR1 := R1.1
  obtain ⟨r0, r1, r2, r3, r4⟩ := R1.below hb
  clear hb k0 k1 k2 k3 k4 k5 k6 X MP RW
  go_wp2_with fail
  have PB1 := ((But.refl (w.heap.size + 1) v6).setCell 0 (.int .i64 nx)).setCell 1 (.slice (some ⟨g6, 0, none⟩) n n)
  exact bodyPost_ret (v := .tuple #[.agg #[.int .i64 nx, .slice (some ⟨g6, 0, none⟩) n n], .int .i64 3]) (by simp (maxDischargeDepth := 6) [results, Try.results10, go_sem, *]) rfl ⟨g6, rfl, by omega, R6.but PB1 (by omega), B.trans (PB1.below (by omega) B.size)⟩
set_option maxHeartbeats 4000000 in
theorem implNetDouble_done (nx : Int) (i : Nat) (x0 x1 x2 : Int) (x3 : ByteArray) (x4 : Int) (b n c : Nat) (M : Nat → FT) (w : World) (hm : n ≤ maxLen) (hf : Cs w b 0 (n * 5) (MFFlight M)) (hs : ∀ i, i < n → ((M i).2.2.2.1).size ≤ maxLen) (hw : ∀ i, i < n → (Lit.int .i64 (M i).1).wf = true) (h : netB nx M n = true) (hin : i < n) (hY : M i = (x0, x1, x2, x3, x4)) (hfu : ¬ (n = 40 ∨ nx = 1000000)) :
    Calls Try.prog 10 #[.agg #[.int .i64 nx, .slice (some ⟨b, 0, none⟩) n c], .int .i64 (i : Int)] w fun e w' => ∃ g, e = .returned (.tuple #[.agg #[.int .i64 (nx + 1), .slice (some ⟨g, 0, none⟩) (n + 1) (n + 1)], .int .i64 0]) ∧ w.heap.size ≤ g ∧ RowF w' g 30 ((n + 1) * 5) ((n + 1) * 5) (MFFlight (insG M n (nx, x1, x2, x3, x4))) ∧ Below w.heap.size w w' := by
  have hn40 := netB_n h
  have hnxr := netB_rng h
  have hnx : 0 ≤ nx ∧ nx < 1000000 := ⟨hnxr.1, by have := hnxr.2; omega⟩
  have hn4 : n < 40 := by omega
  have HL : Hid (∀ j, j < n + 1 → (fun y => if y = nx then some (nx, x1, x2, x3, x4) else lk M n y) (insG M n (nx, x1, x2, x3, x4) j).1 = some (insG M n (nx, x1, x2, x3, x4) j)) := send_mine h rfl
  have HWF : Hid (∀ j, j < n + 1 → (Lit.int .i64 (insG M n (nx, x1, x2, x3, x4) j).1).wf = true) := by
    intro j hj
    by_cases h1 : j < n
    · rw [show insG M n (nx, x1, x2, x3, x4) j = M j by simp [insG, h1]]; exact hw j h1
    · have e1 : j = n := by omega
      subst e1
      have e := insG_at M j (nx, x1, x2, x3, x4)
      rw [e]
      show (Lit.int .i64 nx).wf = true
      simp only [Lit.wf, Bool.and_eq_true, decide_eq_true_eq]; exact ⟨by show (-9223372036854775808 : Int) ≤ nx; omega, by show nx ≤ (9223372036854775807 : Int); omega⟩
  have R1 := B2.new (w.alloc (.cells #[.int .i64 nx, .slice (some ⟨b, 0, none⟩) n c] 26)) (.int .i64 0) (.slice none 0 0) 26
  have A1 := Below.nw w (.cells #[.int .i64 nx, .slice (some ⟨b, 0, none⟩) n c] 26)
  have B := A1.alloc A1.size (.cells #[.int .i64 0, .slice none 0 0] 26)
  have CO := fun w' (h' : Cs w' b 0 (n * 5) (MFFlight M)) => mailOf_any nx (some ⟨b, 0, none⟩) n c M w' hm (.inr ⟨b, 0, rfl, h'⟩) hs hw
  have CS := hf.below B hf.1
  have hF : lk M n x0 = some (x0, x1, x2, x3, x4) := by
    have q := lk_mine (netB_nOk h) i hin
    rw [hY] at q
    exact q
  have hwi : (Lit.int .i64 x0).wf = true := by have q := hw i hin; rw [hY] at q; exact q
  have HF : Hid (lk M n x0 = some (x0, x1, x2, x3, x4)) := hF
  have HY : Hid (M i = (x0, x1, x2, x3, x4)) := hY
  clear hF hY
  simp only [World.size_alloc] at R1
  clear hf A1 hfu hnxr
  go_enter Try.func10, Try.ntmps10
  go_wp2_with fail
  refine (CO _ CS).mono ?_
  rintro e v ⟨V, rfl, q0, q1, hb⟩
  have hbs := hb.size
  simp at hbs
  replace B := B.trans (hb.mono B.size)
  replace R1 := R1.below hb
  clear CO CS
  obtain ⟨bm, br, rfl, hb1, hb2, hne, MP, RW⟩ := q1 h
  rw [h]
  clear q0 q1 hb h hs hw
  have lm := MP.lt
  have lr := RW.lt
  simp at hb1 hb2
  have A4 := Below.nw v (.cells #[.int .i64 nx, .map (some bm), .slice (some ⟨br, 0, none⟩) n n] 53)
  have X := MB.new v (.int .i64 nx) (.map (some bm)) (.slice (some ⟨br, 0, none⟩) n n) 53
  replace MP := MP.below A4
  replace RW := RowF.below' A4 RW
  replace B := B.trans (A4.mono B.size)
  replace R1 := R1.below A4
  have CH := fun w' => mailHas_any nx (i : Int) bm br n w' hn40
  rw [decide_eq_true (show 0 ≤ (i : Int) ∧ (i : Int) < (n : Int) by omega)] at CH
  clear A4
  obtain ⟨k0, k1, k2, k3, k4, k5, k6⟩ := id X
  go_wp2_with fail
  generalize v.heap.size = jm at *
  refine (CH _).mono ?_
  rintro e v3 ⟨rfl, hb⟩
  replace B := B.trans (hb.mono B.size)
  replace R1 := R1.below hb
  replace X := X.below hb
  replace MP := MP.below hb
  replace RW := RowF.below' hb RW
  clear hb CH k0 k1 k2 k3 k4 k5 k6
  have hce : v3.cell? ⟨br, i, none⟩ = some (.int .i64 x0) := by
    have q := (RW.cs (Nat.le_refl _)).2 i hin
    rw [Nat.zero_add] at q
    rw [q, idF, HY.out]
  obtain ⟨k0, k1, k2, k3, k4, k5, k6⟩ := id X
  go_wp2_with fail
  refine (mailAt_any nx bm br n n i (lk M n) x0 x1 x2 x3 x4 _ hn40 hin MP RW.lt hce hwi HF.out).mono ?_
  rintro e v4 ⟨rfl, hb⟩
  replace B := B.trans (hb.mono B.size)
  replace R1 := R1.below hb
  replace X := X.below hb
  replace MP := MP.below hb
  replace RW := RowF.below' hb RW
  clear hb k0 k1 k2 k3 k4 k5 k6 hce
  go_wp2_with fail
  refine (mailSend_done nx jm bm br n n (lk M n) M x0 x1 x2 x3 x4 _ hn4 (by omega) hnx X MP RW (by omega) (by omega) hne).mono ?_
  rintro e v5 ⟨b5, rfl, hb5, X5, M5, R5, Z5⟩
  have hz4 := R1.1
  have D1 : B2 v5 (w.heap.size + 1) (.int .i64 0) (.slice none 0 0) := R1.but2 Z5 (by omega) (by omega)
  replace B := B.trans (Z5.below (B := w.heap.size) (by omega) (by omega) B.size)
  clear Z5 R1 X MP RW
  obtain ⟨k0, k1, k2, k3, k4, k5, k6⟩ := id X5
  go_wp2_with fail
  refine (mailNet_any (nx + 1) bm b5 (n + 1) (n + 1) _ (insG M n (nx, x1, x2, x3, x4)) _ (by omega) M5 R5 HL.out HWF.out).mono ?_
  rintro e v6 ⟨g6, rfl, hg6, R6, hb⟩
  have hv5 := B.size
  replace B := B.trans (hb.mono B.size)
  have hR1 := D1.1
  obtain ⟨r0, r1, r2, r3, r4⟩ := D1.below hb
  clear hb k0 k1 k2 k3 k4 k5 k6 X5 M5 R5
  go_wp2_with fail
  have PB1 := ((But.refl (w.heap.size + 1) v6).setCell 0 (.int .i64 (nx + 1))).setCell 1 (.slice (some ⟨g6, 0, none⟩) (n + 1) (n + 1))
  exact bodyPost_ret (v := .tuple #[.agg #[.int .i64 (nx + 1), .slice (some ⟨g6, 0, none⟩) (n + 1) (n + 1)], .int .i64 0]) (by simp (maxDischargeDepth := 6) [results, Try.results10, go_sem, *]) rfl ⟨g6, rfl, by omega, R6.but PB1 (by omega), B.trans (PB1.below (by omega) B.size)⟩
set_option maxHeartbeats 4000000 in
theorem implNetDouble_bad (nx i : Int) (b n c : Nat) (M : Nat → FT) (w : World) (hm : n ≤ maxLen) (hf : Cs w b 0 (n * 5) (MFFlight M)) (hs : ∀ i, i < n → ((M i).2.2.2.1).size ≤ maxLen) (hw : ∀ i, i < n → (Lit.int .i64 (M i).1).wf = true) (h : netB nx M n = false) :
    Calls Try.prog 10 #[.agg #[.int .i64 nx, .slice (some ⟨b, 0, none⟩) n c], .int .i64 i] w fun e w' => e = .returned (.tuple #[.agg #[.int .i64 0, .slice none 0 0], .int .i64 1]) ∧ Below w.heap.size w w' := by
  have R1 := B2.new (w.alloc (.cells #[.int .i64 nx, .slice (some ⟨b, 0, none⟩) n c] 26)) (.int .i64 0) (.slice none 0 0) 26
  have A1 := Below.nw w (.cells #[.int .i64 nx, .slice (some ⟨b, 0, none⟩) n c] 26)
  have B := A1.alloc A1.size (.cells #[.int .i64 0, .slice none 0 0] 26)
  have CO := fun w' (h' : Cs w' b 0 (n * 5) (MFFlight M)) => mailOf_any nx (some ⟨b, 0, none⟩) n c M w' hm (.inr ⟨b, 0, rfl, h'⟩) hs hw
  have CS := hf.below B hf.1
  simp only [World.size_alloc] at R1
  clear hf A1
  go_enter Try.func10, Try.ntmps10
  go_wp2_with fail
  refine (CO _ CS).mono ?_
  rintro e v ⟨V, rfl, q0, q1, hb⟩
  replace B := B.trans (hb.mono B.size)
  replace R1 := R1.below hb
  clear CO CS
  have hV := q0 h
  subst hV
  rw [h]
  clear q0 q1 hb
  unfold zml
  have A4 := Below.nw v (.cells #[.int .i64 0, .map none, .slice none 0 0] 53)
  replace B := B.trans (A4.mono B.size)
  obtain ⟨r0, r1, r2, r3, r4⟩ := R1.below A4
  clear A4 R1
  go_wp2_with fail
  generalize v.alloc (.cells #[.int .i64 0, .map none, .slice none 0 0] 53) = v4 at *
  have PB1 := ((But.refl (w.heap.size + 1) v4).setCell 0 (.int .i64 0)).setCell 1 (.slice none 0 0)
  exact bodyPost_ret (v := .tuple #[.agg #[.int .i64 0, .slice none 0 0], .int .i64 1]) (by simp (maxDischargeDepth := 6) [results, Try.results10, go_sem, *]) rfl ⟨rfl, B.trans (PB1.below (by omega) B.size)⟩
set_option maxHeartbeats 4000000 in
theorem implNetDouble_none (nx i : Int) (b n c : Nat) (M : Nat → FT) (w : World) (hm : n ≤ maxLen) (hf : Cs w b 0 (n * 5) (MFFlight M)) (hs : ∀ i, i < n → ((M i).2.2.2.1).size ≤ maxLen) (hw : ∀ i, i < n → (Lit.int .i64 (M i).1).wf = true) (h : netB nx M n = true) (hit : ¬ (0 ≤ i ∧ i < (n : Int))) :
    Calls Try.prog 10 #[.agg #[.int .i64 nx, .slice (some ⟨b, 0, none⟩) n c], .int .i64 i] w fun e w' => ∃ g, e = .returned (.tuple #[.agg #[.int .i64 nx, .slice (some ⟨g, 0, none⟩) n n], .int .i64 2]) ∧ w.heap.size ≤ g ∧ RowF w' g 30 (n * 5) (n * 5) (MFFlight M) ∧ Below w.heap.size w w' := by
  have hn40 := netB_n h
  have HL : Hid (∀ j, j < n → lk M n (M j).1 = some (M j)) := lk_mine (netB_nOk h)
  have HWF : Hid (∀ j, j < n → (Lit.int .i64 (M j).1).wf = true) := hw
  have R1 := B2.new (w.alloc (.cells #[.int .i64 nx, .slice (some ⟨b, 0, none⟩) n c] 26)) (.int .i64 0) (.slice none 0 0) 26
  have A1 := Below.nw w (.cells #[.int .i64 nx, .slice (some ⟨b, 0, none⟩) n c] 26)
  have B := A1.alloc A1.size (.cells #[.int .i64 0, .slice none 0 0] 26)
  have CO := fun w' (h' : Cs w' b 0 (n * 5) (MFFlight M)) => mailOf_any nx (some ⟨b, 0, none⟩) n c M w' hm (.inr ⟨b, 0, rfl, h'⟩) hs hw
  have CS := hf.below B hf.1
  simp only [World.size_alloc] at R1
  clear hf A1
  go_enter Try.func10, Try.ntmps10
  go_wp2_with fail
  refine (CO _ CS).mono ?_
  rintro e v ⟨V, rfl, q0, q1, hb⟩
  replace B := B.trans (hb.mono B.size)
  replace R1 := R1.below hb
  clear CO CS
  obtain ⟨bm, br, rfl, hb1, hb2, hne, MP, RW⟩ := q1 h
  rw [h]
  clear q0 q1 hb h hs hw
  have A4 := Below.nw v (.cells #[.int .i64 nx, .map (some bm), .slice (some ⟨br, 0, none⟩) n n] 53)
  have X := MB.new v (.int .i64 nx) (.map (some bm)) (.slice (some ⟨br, 0, none⟩) n n) 53
  replace MP := MP.below A4
  replace RW := RowF.below' A4 RW
  replace B := B.trans (A4.mono B.size)
  replace R1 := R1.below A4
  have CH := fun w' => mailHas_any nx i bm br n w' hn40
  rw [decide_eq_false hit] at CH
  clear A4 hit
  obtain ⟨k0, k1, k2, k3, k4, k5, k6⟩ := id X
  go_wp2_with fail
  generalize v.heap.size = jm at *
  refine (CH _).mono ?_
  rintro e v3 ⟨rfl, hb⟩
  replace B := B.trans (hb.mono B.size)
  replace R1 := R1.below hb
  replace X := X.below hb
  replace MP := MP.below hb
  replace RW := RowF.below' hb RW
  clear hb CH k0 k1 k2 k3 k4 k5 k6
  obtain ⟨k0, k1, k2, k3, k4, k5, k6⟩ := id X
  go_wp2_with fail
  refine (mailNet_any nx bm br n n (lk M n) M _ hn40 MP RW HL.out HWF.out).mono ?_
  rintro e v6 ⟨g6, rfl, hg6, R6, hb⟩
  have hv5 := B.size
  replace B := B.trans (hb.mono B.size)
  have hR1 := R1.1
  obtain ⟨r0, r1, r2, r3, r4⟩ := R1.below hb
  clear hb k0 k1 k2 k3 k4 k5 k6 X MP RW
  go_wp2_with fail
  have PB1 := ((But.refl (w.heap.size + 1) v6).setCell 0 (.int .i64 nx)).setCell 1 (.slice (some ⟨g6, 0, none⟩) n n)
  exact bodyPost_ret (v := .tuple #[.agg #[.int .i64 nx, .slice (some ⟨g6, 0, none⟩) n n], .int .i64 2]) (by simp (maxDischargeDepth := 6) [results, Try.results10, go_sem, *]) rfl ⟨g6, rfl, by omega, R6.but PB1 (by omega), B.trans (PB1.below (by omega) B.size)⟩
theorem nOk_fl {nx : Int} {M : Nat → FT} : ∀ {n : Nat}, nOk nx M n = true → ∀ j, j < n → flT (M j) = true := by
  intro n
  induction n with
  | zero => intro _ j hj; exact absurd hj (Nat.not_lt_zero _)
  | succ k ih =>
    intro h j hj
    rw [nOk, Bool.and_eq_true, Bool.and_eq_true, Bool.and_eq_true] at h
    by_cases e : j = k
    · subst e; exact h.2.1.1
    · exact ih h.1 j (by omega)
def DbIs (nx : Int) (M : Nat → FT) (n : Nat) (i : Int) (X : Int) (m : Nat) (G : Nat → FT) (C : Int) : Prop :=
  (netB nx M n = false ∧ X = 0 ∧ m = 0 ∧ C = 1) ∨ (netB nx M n = true ∧ ¬ (0 ≤ i ∧ i < (n : Int)) ∧ X = nx ∧ m = n ∧ G = M ∧ C = 2) ∨ (netB nx M n = true ∧ ∃ k : Nat, i = (k : Int) ∧ k < n ∧ (((n = 40 ∨ nx = 1000000) ∧ X = nx ∧ m = n ∧ G = M ∧ C = 3) ∨ (¬ (n = 40 ∨ nx = 1000000) ∧ X = nx + 1 ∧ m = n + 1 ∧ G = insG M n (nx, (M k).2.1, (M k).2.2.1, (M k).2.2.2.1, (M k).2.2.2.2) ∧ C = 0)))
theorem db_ex (nx : Int) (M : Nat → FT) (n : Nat) (i : Int) : ∃ X m G Y C, (DbIs nx M n i X m G C ∧ Y = zF) ∧ m ≤ 41 := by
  cases h : netB nx M n
  · exact ⟨0, 0, M, zF, 1, ⟨.inl ⟨h, rfl, rfl, rfl⟩, rfl⟩, Nat.zero_le _⟩
  · have hn := netB_n h
    by_cases hi : 0 ≤ i ∧ i < (n : Int)
    · by_cases hu : n = 40 ∨ nx = 1000000
      · exact ⟨nx, n, M, zF, 3, ⟨.inr (.inr ⟨h, i.toNat, by omega, by omega, .inl ⟨hu, rfl, rfl, rfl, rfl⟩⟩), rfl⟩, by omega⟩
      · exact ⟨nx + 1, n + 1, _, zF, 0, ⟨.inr (.inr ⟨h, i.toNat, by omega, by omega, .inr ⟨hu, rfl, rfl, rfl, rfl⟩⟩), rfl⟩, by omega⟩
    · exact ⟨nx, n, M, zF, 2, ⟨.inr (.inl ⟨h, hi, rfl, rfl, rfl, rfl⟩), rfl⟩, by omega⟩
theorem specNetDouble_any (nx i : Int) (b n c : Nat) (M : Nat → FT) (X : Int) (m : Nat) (G : Nat → FT) (C : Int) (w : World) (hm : n ≤ maxLen) (hf : Cs w b 0 (n * 5) (MFFlight M)) (hs : ∀ i, i < n → ((M i).2.2.2.1).size ≤ maxLen) (h : DbIs nx M n i X m G C) :
    Calls Try.prog 11 #[.agg #[.int .i64 nx, .slice (some ⟨b, 0, none⟩) n c], .int .i64 i] w fun e w' => ∃ a' c', e = .returned (.tuple #[.agg #[.int .i64 X, .slice a' m c'], .int .i64 C]) ∧ w'.ownsRow w.heap.size 30 5 (.slice a' m c') m (frow G m) ∧ Below w.heap.size w w' := by
  rcases h with ⟨h, rfl, rfl, rfl⟩ | ⟨h, hi, rfl, rfl, rfl, rfl⟩ | ⟨h, k, rfl, hk, hh⟩
  · exact specNetDouble_take nx i b n c M 0 0 G 0 0 0 ⟨#[]⟩ 0 1 w hm hf hs (.inl ⟨h, rfl, rfl, rfl, rfl⟩) (by decide)
  · exact specNetDouble_take X i b m c G X m G 0 0 0 ⟨#[]⟩ 0 2 w hm hf hs (.inr (.inl ⟨h, hi, rfl, rfl, rfl, rfl, rfl⟩)) (by decide)
  · obtain ⟨y0, y1, y2, y3, y4, hY⟩ := tupFlight M k
    have hfl : flB y1 y2 y3 y4 = true := by have q := nOk_fl (netB_nOk h) k hk; rw [hY] at q; exact q
    have hb : (netB nx M n && flB y1 y2 y3 y4) = true := by rw [h, hfl]; rfl
    have h3 : y3.size ≤ maxLen := by have q := hs k hk; rw [hY] at q; exact q
    refine specNetDouble_send nx k b n c M nx (n - 1) (cutG M k) y0 y1 y2 y3 y4 X m G C w hm hf hs h3 (.inr (.inr ⟨h, k, rfl, hk, rfl, rfl, rfl, hY.symm, rfl⟩)) ?_
    rcases hh with ⟨hu, rfl, rfl, rfl, rfl⟩ | ⟨hu, rfl, rfl, rfl, rfl⟩
    · exact .inr (.inl ⟨hb, hu, rfl, rfl, rfl, rfl⟩)
    · exact .inr (.inr ⟨hb, hu, rfl, rfl, by rw [hY], rfl⟩)
theorem implNetDouble_any (nx i : Int) (b n c : Nat) (M : Nat → FT) (X : Int) (m : Nat) (G : Nat → FT) (C : Int) (w : World) (hm : n ≤ maxLen) (hf : Cs w b 0 (n * 5) (MFFlight M)) (hs : ∀ i, i < n → ((M i).2.2.2.1).size ≤ maxLen) (hw : ∀ i, i < n → (Lit.int .i64 (M i).1).wf = true) (h : DbIs nx M n i X m G C) :
    Calls Try.prog 10 #[.agg #[.int .i64 nx, .slice (some ⟨b, 0, none⟩) n c], .int .i64 i] w fun e w' => ∃ a' c', e = .returned (.tuple #[.agg #[.int .i64 X, .slice a' m c'], .int .i64 C]) ∧ w'.ownsRow w.heap.size 30 5 (.slice a' m c') m (frow G m) ∧ Below w.heap.size w w' := by
  rcases h with ⟨h, rfl, rfl, rfl⟩ | ⟨h, hi, rfl, rfl, rfl, rfl⟩ | ⟨h, k, rfl, hk, hh⟩
  · exact (implNetDouble_bad nx i b n c M w hm hf hs hw h).mono fun e w' ⟨h1, h2⟩ => ⟨none, 0, h1, World.ownsRow_nil _ _ _ _, h2⟩
  · exact (implNetDouble_none X i b m c G w hm hf hs hw h hi).mono fun e w' ⟨g, h1, h2, h3, h4⟩ => ⟨_, _, h1, own_ofRow h3 h2 hm, h4⟩
  · obtain ⟨y0, y1, y2, y3, y4, hY⟩ := tupFlight M k
    rcases hh with ⟨hu, rfl, rfl, rfl, rfl⟩ | ⟨hu, rfl, rfl, rfl, rfl⟩
    · exact (implNetDouble_full X k y0 y1 y2 y3 y4 b m c G w hm hf hs hw h hk hY hu).mono fun e w' ⟨g, h1, h2, h3, h4⟩ => ⟨_, _, h1, own_ofRow h3 h2 hm, h4⟩
    · rw [hY]
      exact (implNetDouble_done nx k y0 y1 y2 y3 y4 b n c M w hm hf hs hw h hk hY hu).mono fun e w' ⟨g, h1, h2, h3, h4⟩ => ⟨_, _, h1, own_ofRow h3 h2 (by unfold maxLen; have := netB_n h; omega), h4⟩
end Go.Proofs.Ytgfhcilhibbooaa
namespace Go.Proofs.Ytgfhcilhibbooaa
open Go.RowKit
set_option linter.unusedVariables false
def MvIs (nx : Int) (M : Nat → FT) (n : Nat) (i t : Int) (X : Int) (m : Nat) (G : Nat → FT) (C : Int) : Prop :=
  (netB nx M n = false ∧ X = 0 ∧ m = 0 ∧ C = 1) ∨ (netB nx M n = true ∧ ¬ ((0 ≤ i ∧ i < (n : Int)) ∧ (0 ≤ t ∧ t < (n : Int))) ∧ X = nx ∧ m = n ∧ G = M ∧ C = 2) ∨ (netB nx M n = true ∧ ∃ k l : Nat, i = (k : Int) ∧ k < n ∧ t = (l : Int) ∧ l < n ∧ X = nx ∧ m = n ∧ G = insG (cutG M k) l (M k) ∧ C = 0)
theorem mv_ex (nx : Int) (M : Nat → FT) (n : Nat) (i t : Int) : ∃ X m G Y C, (MvIs nx M n i t X m G C ∧ Y = zF) ∧ m ≤ n := by
  cases h : netB nx M n
  · exact ⟨0, 0, M, zF, 1, ⟨.inl ⟨h, rfl, rfl, rfl⟩, rfl⟩, Nat.zero_le _⟩
  · by_cases hi : (0 ≤ i ∧ i < (n : Int)) ∧ (0 ≤ t ∧ t < (n : Int))
    · exact ⟨nx, n, insG (cutG M i.toNat) t.toNat (M i.toNat), zF, 0, ⟨.inr (.inr ⟨h, i.toNat, t.toNat, by omega, by omega, by omega, by omega, rfl, rfl, rfl, rfl⟩), rfl⟩, Nat.le_refl _⟩
    · exact ⟨nx, n, M, zF, 2, ⟨.inr (.inl ⟨h, hi, rfl, rfl, rfl, rfl⟩), rfl⟩, Nat.le_refl _⟩
theorem implNetMove_any (nx i t : Int) (b n c : Nat) (M : Nat → FT) (X : Int) (m : Nat) (G : Nat → FT) (C : Int) (w : World) (hm : n ≤ maxLen) (hf : Cs w b 0 (n * 5) (MFFlight M)) (hs : ∀ i, i < n → ((M i).2.2.2.1).size ≤ maxLen) (hw : ∀ i, i < n → (Lit.int .i64 (M i).1).wf = true) (h : MvIs nx M n i t X m G C) :
    Calls Try.prog 14 #[.agg #[.int .i64 nx, .slice (some ⟨b, 0, none⟩) n c], .int .i64 i, .int .i64 t] w fun e w' => ∃ a' c', e = .returned (.tuple #[.agg #[.int .i64 X, .slice a' m c'], .int .i64 C]) ∧ w'.ownsRow w.heap.size 30 5 (.slice a' m c') m (frow G m) ∧ Below w.heap.size w w' := by
  rcases h with ⟨h, rfl, rfl, rfl⟩ | ⟨h, hi, rfl, rfl, rfl, rfl⟩ | ⟨h, k, l, rfl, hk, rfl, hl, rfl, rfl, rfl, rfl⟩
  · exact (implNetMove_bad nx i t b n c M w hm hf hs hw h).mono fun e w' ⟨h1, h2⟩ => ⟨none, 0, h1, World.ownsRow_nil _ _ _ _, h2⟩
  · exact (implNetMove_none X i t b m c G w hm hf hs hw h hi).mono fun e w' ⟨g, h1, h2, h3, h4⟩ => ⟨_, _, h1, own_ofRow h3 h2 hm, h4⟩
  · obtain ⟨y0, y1, y2, y3, y4, hY⟩ := tupFlight M k
    have q := implNetMove_done X k l b m c M y0 y1 y2 y3 y4 w hm hf hs hw h hk hl hY
    rw [show m - 1 + 1 = m by omega, ← hY] at q
    exact q.mono fun e w' ⟨g, h1, h2, h3, h4⟩ => ⟨_, _, h1, own_ofRow h3 h2 hm, h4⟩
end Go.Proofs.Ytgfhcilhibbooaa
namespace Go.Proofs.Ytgfhcilhibbooaa
open Go.RowKit
set_option linter.unusedVariables false
theorem nOk_fl9 {nx : Int} {M : Nat → FT} : ∀ {n : Nat}, nOk nx M n = true → ∀ j, j < n → flT (M j) = true ∧ inB nx (M j).1 = true
  | 0, _, j, hj => absurd hj (Nat.not_lt_zero _)
  | n + 1, h, j, hj => by
    simp only [nOk, Bool.and_eq_true] at h
    rcases Nat.lt_succ_iff_lt_or_eq.1 hj with h1 | h1
    · exact nOk_fl9 h.1 j h1
    · subst h1; exact h.2.1
theorem lk_no9 {M : Nat → FT} {x : Int} : ∀ {n : Nat}, lk M n x = none ↔ ∀ j, j < n → (M j).1 ≠ x
  | 0 => by simp [lk]
  | n + 1 => by
    rw [lk]
    by_cases e : (M n).1 = x
    · rw [if_pos e]
      exact ⟨fun h => (by cases h), fun h => absurd e (h n (by omega))⟩
    · rw [if_neg e, lk_no9 (n := n)]
      refine ⟨fun h j hj => ?_, fun h j hj => h j (by omega)⟩
      rcases Nat.lt_succ_iff_lt_or_eq.1 hj with h1 | h1
      · exact h j h1
      · subst h1; exact e
theorem nOk_of {nx : Int} {M : Nat → FT} : ∀ {n : Nat}, (∀ j, j < n → flT (M j) = true ∧ inB nx (M j).1 = true) → (∀ i j, i < j → j < n → (M i).1 ≠ (M j).1) → nOk nx M n = true
  | 0, _, _ => rfl
  | n + 1, h1, h2 => by
    rw [nOk, nOk_of (n := n) (fun j hj => h1 j (by omega)) (fun i j hi hj => h2 i j hi (by omega)), (h1 n (by omega)).1, (h1 n (by omega)).2]
    have : lk M n (M n).1 = none := lk_no9.2 fun j hj => h2 j n hj (by omega)
    rw [this]; rfl
theorem netB_nx9 {nx : Int} {M : Nat → FT} {n : Nat} (h : netB nx M n = true) : 0 ≤ nx ∧ nx ≤ 1000000 := by simp only [netB, Bool.and_eq_true, decide_eq_true_eq] at h; exact h.1.1
/- The doubled one at the end: the net is right, and without it as it was. -/
theorem netB_dbl {nx : Int} {M : Nat → FT} {n : Nat} {f : FT} (h : netB nx M n = true) (hf1 : f.1 = nx) (hf2 : flT f = true) (hu : ¬ (n = 40 ∨ nx = 1000000)) : netB (nx + 1) (insG M n f) (n + 1) = true := by
  have hn := netB_n h
  have hx := netB_nx9 h
  have hF := nOk_fl9 (netB_nOk h)
  have hI := nOk_ids (netB_nOk h)
  refine netB_ok (by omega) (by omega) (nOk_of (fun j hj => ?_) (fun i j hi hj => ?_))
  · unfold insG
    by_cases e : j < n
    · rw [if_pos e]
      have := hF j e
      refine ⟨this.1, ?_⟩
      have h2 := this.2
      simp only [inB, decide_eq_true_eq] at h2 ⊢
      omega
    · rw [if_neg e, if_pos (by omega)]
      refine ⟨hf2, ?_⟩
      simp only [inB, decide_eq_true_eq]
      omega
  · unfold insG
    by_cases e : j < n
    · rw [if_pos e, if_pos (by omega)]; exact hI i j hi e
    · rw [if_neg e, if_pos (show j = n by omega), if_pos (show i < n by omega)]
      have := (hF i (by omega)).2
      simp only [inB, decide_eq_true_eq] at this
      omega
theorem back_dbl {M : Nat → FT} {n : Nat} {f : FT} : ∀ j, j < n → cutG (insG M n f) n j = M j := fun j hj => by
  unfold cutG insG
  simp [hj]
/- What is moved: each flight is one of the net's, each once. -/
def mvP (n k l j : Nat) : Nat := if j < l then (if j < k then j else j + 1) else if j = l then k else (if j - 1 < k then j - 1 else j)
theorem mv_at (M : Nat → FT) {n k l j : Nat} (hk : k < n) (hl : l < n) (hj : j < n) : insG (cutG M k) l (M k) j = M (mvP n k l j) := by
  unfold insG cutG mvP
  by_cases h1 : j < l
  · simp only [if_pos h1]; split <;> rfl
  · simp only [if_neg h1]
    by_cases h2 : j = l
    · simp only [if_pos h2]
    · simp only [if_neg h2]
      by_cases h3 : j - 1 < k
      · simp only [if_pos h3]
      · simp only [if_neg h3]
        rw [show j - 1 + 1 = j by omega]
theorem mvP_lt {n k l j : Nat} (hk : k < n) (hl : l < n) (hj : j < n) : mvP n k l j < n := by
  unfold mvP
  split
  · split <;> omega
  · split
    · omega
    · split <;> omega
theorem mvP_inj {n k l i j : Nat} (hk : k < n) (hl : l < n) (hi : i < j) (hj : j < n) : mvP n k l i ≠ mvP n k l j := by
  unfold mvP
  repeat' split
  all_goals omega
theorem ids_ne {nx : Int} {M : Nat → FT} {n i j : Nat} (h : netB nx M n = true) (hi : i < n) (hj : j < n) (hne : i ≠ j) : (M i).1 ≠ (M j).1 := by
  have hI := nOk_ids (netB_nOk h)
  rcases Nat.lt_or_gt_of_ne hne with q | q
  · exact hI i j q hj
  · exact fun e => hI j i q hi e.symm
theorem netB_mv {nx : Int} {M : Nat → FT} {n k l : Nat} (h : netB nx M n = true) (hk : k < n) (hl : l < n) : netB nx (insG (cutG M k) l (M k)) n = true := by
  have hF := nOk_fl9 (netB_nOk h)
  refine netB_ok (netB_nx9 h) (netB_n h) (nOk_of (fun j hj => ?_) (fun i j hi hj => ?_))
  · rw [mv_at M hk hl hj]; exact hF _ (mvP_lt hk hl hj)
  · rw [mv_at M hk hl hj, mv_at M hk hl (by omega : i < n)]
    exact ids_ne h (mvP_lt hk hl (by omega)) (mvP_lt hk hl hj) (mvP_inj hk hl hi hj)
theorem mv_to (M : Nat → FT) (k l : Nat) : insG (cutG M k) l (M k) l = M k := by unfold insG; simp
theorem mv_home (M : Nat → FT) {n k l : Nat} (hk : k < n) (hl : l < n) : ∀ j, j < n → insG (cutG (insG (cutG M k) l (M k)) l) k (M k) j = M j := fun j hj => by
  unfold insG cutG
  by_cases h1 : j < k
  · simp only [if_pos h1]
    by_cases h2 : j < l
    · simp only [if_pos h2]
    · simp only [if_neg h2]
      rw [if_neg (by omega), if_neg (by omega), if_pos (by omega), show j + 1 - 1 = j by omega]
  · simp only [if_neg h1]
    by_cases h3 : j = k
    · simp only [if_pos h3]; rw [h3]
    · simp only [if_neg h3]
      by_cases h2 : j - 1 < l
      · simp only [if_pos h2]
        rw [if_neg (by omega), show j - 1 + 1 = j by omega]
      · simp only [if_neg h2]
        rw [if_neg (by omega), if_neg (by omega), if_neg (by omega), show j - 1 + 1 - 1 + 1 = j by omega]
end Go.Proofs.Ytgfhcilhibbooaa
namespace Go.Proofs.Ytgfhcilhibbooaa
open Go.RowKit
set_option linter.unusedVariables false
def cuB (nd : Int) (f : FT) : Bool := decide (f.2.1 = nd ∨ f.2.2.1 = nd)
def kc (M : Nat → FT) (nd : Int) : Nat → Nat
  | 0 => 0
  | k + 1 => if cuB nd (M k) = true then kc M nd k else kc M nd k + 1
def kF (M : Nat → FT) (nd : Int) : Nat → Nat → FT
  | 0 => fun _ => zF
  | k + 1 => if cuB nd (M k) = true then kF M nd k else fun j => if j = kc M nd k then M k else kF M nd k j
theorem kc_cut {M : Nat → FT} {nd : Int} {k : Nat} (h : cuB nd (M k) = true) : kc M nd (k + 1) = kc M nd k ∧ kF M nd (k + 1) = kF M nd k := ⟨by rw [kc, if_pos h], by rw [kF, if_pos h]⟩
theorem kc_keep {M : Nat → FT} {nd : Int} {k : Nat} (h : cuB nd (M k) = false) : kc M nd (k + 1) = kc M nd k + 1 ∧ kF M nd (k + 1) = fun j => if j = kc M nd k then M k else kF M nd k j := ⟨by rw [kc, if_neg (by rw [h]; decide)], by rw [kF, if_neg (by rw [h]; decide)]⟩
theorem kc_le (M : Nat → FT) (nd : Int) (k : Nat) : kc M nd k ≤ k := by
  induction k with
  | zero => exact Nat.le_refl _
  | succ k ih => rw [kc]; split <;> omega
theorem kc_mono {M : Nat → FT} {nd : Int} {k n : Nat} (h : k ≤ n) : kc M nd k ≤ kc M nd n := by
  induction n with
  | zero => rw [show k = 0 by omega]; exact Nat.le_refl _
  | succ n ih =>
    by_cases e : k = n + 1
    · rw [e]; exact Nat.le_refl _
    · have := ih (by omega)
      rw [kc]; split <;> omega
theorem kF_at {M : Nat → FT} {nd : Int} {q : Nat} (hq : cuB nd (M q) = false) : ∀ {n : Nat}, q < n → kF M nd n (kc M nd q) = M q := by
  intro n
  induction n with
  | zero => intro h; exact absurd h (Nat.not_lt_zero _)
  | succ k ih =>
    intro h
    cases hc : cuB nd (M k)
    · rw [(kc_keep hc).2]
      by_cases e : q = k
      · subst e; simp
      · have h1 := kc_mono (M := M) (nd := nd) (show q + 1 ≤ k by omega)
        rw [(kc_keep hq).1] at h1
        show (if kc M nd q = kc M nd k then M k else kF M nd k (kc M nd q)) = _
        rw [if_neg (by omega)]
        exact ih (by omega)
    · rw [(kc_cut hc).2]
      refine ih ?_
      by_cases e : q = k
      · subst e; rw [hq] at hc; cases hc
      · omega
theorem frow_keep {M : Nat → FT} {nd : Int} {k : Nat} {x0 x1 x2 : Int} {x3 : ByteArray} {x4 : Int} (h : cuB nd (M k) = false) (hM : M k = (x0, x1, x2, x3, x4)) : frow (kF M nd k) (kc M nd k) ++ [.int .i64 x0, .int .i64 x1, .int .i64 x2, .string x3, .int .i64 x4] = frow (kF M nd (k + 1)) (kc M nd k + 1) := by
  have e := (kc_keep h).2
  rw [frow_congr (G := kF M nd k) (H := kF M nd (k + 1)) (fun j hj => by rw [e]; show _ = (if j = kc M nd k then M k else kF M nd k j); rw [if_neg (by omega)])]
  exact frow_add (by rw [e]; show (if kc M nd k = kc M nd k then M k else _) = _; rw [if_pos rfl]; exact hM)
/- The program takes from the end on. -/
def bG (M : Nat → FT) (nd : Int) (n : Nat) : Nat → Nat × (Nat → FT)
  | 0 => (n, M)
  | d + 1 => if cuB nd (M (n - 1 - d)) = true then ((bG M nd n d).1 - 1, cutG (bG M nd n d).2 (n - 1 - d)) else bG M nd n d
theorem bG_ok (M : Nat → FT) (nd : Int) (n : Nat) : ∀ d, d ≤ n → (bG M nd n d).1 = (n - d) + (kc M nd n - kc M nd (n - d)) ∧ (∀ j, j < n - d → (bG M nd n d).2 j = M j) ∧ (∀ j, n - d ≤ j → j < (bG M nd n d).1 → (bG M nd n d).2 j = kF M nd n (kc M nd (n - d) + (j - (n - d)))) := by
  intro d
  induction d with
  | zero => intro _; exact ⟨by simp [bG], fun j _ => rfl, fun j h1 h2 => by simp [bG] at h1 h2; omega⟩
  | succ d ih =>
    intro hd
    obtain ⟨i1, i2, i3⟩ := ih (by omega)
    obtain ⟨q, hq⟩ : ∃ q, q = n - 1 - d := ⟨_, rfl⟩
    have e1 : n - d = q + 1 := by omega
    have e2 : n - (d + 1) = q := by omega
    rw [e1] at i1 i2 i3
    rw [e2, bG, ← hq]
    have hmo := kc_mono (M := M) (nd := nd) (show q + 1 ≤ n by omega)
    cases hc : cuB nd (M q)
    · rw [if_neg (by decide)]
      have hk := (kc_keep hc).1
      rw [hk] at i1 i3 hmo
      refine ⟨by rw [i1]; omega, fun j hj => i2 j (by omega), fun j h1 h2 => ?_⟩
      by_cases e : j = q
      · subst e
        rw [i2 j (by omega), show j - j = 0 by omega, Nat.add_zero]
        exact (kF_at hc (by omega)).symm
      · rw [i3 j (by omega) h2]
        congr 1
        omega
    · rw [if_pos rfl]
      have hk := (kc_cut hc).1
      rw [hk] at i1 i3 hmo
      refine ⟨by show (bG M nd n d).1 - 1 = _; rw [i1]; omega, fun j hj => by show cutG _ _ _ = _; rw [cutG, if_pos hj]; exact i2 j (by omega), fun j h1 h2 => ?_⟩
      show cutG _ _ _ = _
      rw [cutG, if_neg (by omega), i3 (j + 1) (by omega) (by simp only at h2; omega)]
      congr 1
      omega
theorem bG_end (M : Nat → FT) (nd : Int) (n : Nat) : (bG M nd n n).1 = kc M nd n ∧ ∀ j, j < kc M nd n → (bG M nd n n).2 j = kF M nd n j := by
  obtain ⟨i1, _, i3⟩ := bG_ok M nd n n (Nat.le_refl _)
  rw [Nat.sub_self] at i1 i3
  have z : kc M nd 0 = 0 := rfl
  rw [z] at i1 i3
  exact ⟨by omega, fun j hj => by rw [i3 j (Nat.zero_le _) (by omega)]; congr 1; omega⟩
def CuInv (nx nd : Int) (M : Nat → FT) (w : World) (b n c jo k : Nat) (wr : World) : Prop := ∃ vk : Value, B2 wr jo (.int .i64 nx) vk ∧ wr.ownsRow (jo + 1) 30 5 vk (kc M nd k) (frow (kF M nd k) (kc M nd k)) ∧ NB wr w.heap.size nx (some ⟨b, 0, none⟩) n c ∧ B2 wr (w.heap.size + 1) (.int .i64 0) (.slice none 0 0) ∧ Cs wr b 0 (n * 5) (MFFlight M) ∧ Below w.heap.size w wr
end Go.Proofs.Ytgfhcilhibbooaa
namespace Go.Proofs.Ytgfhcilhibbooaa
open Go.RowKit
set_option linter.unusedVariables false
structure HidP (p : Prop) : Prop where
  out : p
theorem cutG_inv {F : Int → Option FT} {G : Nat → FT} {m q : Nat} (hq : q < m) (h1 : ∀ j, j < m → F (G j).1 = some (G j)) (h2 : ∀ j k, j < k → k < m → (G j).1 ≠ (G k).1) (h3 : ∀ j, j < m → (Lit.int .i64 (G j).1).wf = true) :
    (∀ j, j < m - 1 → (fun y => if y = (G q).1 then none else F y) (cutG G q j).1 = some (cutG G q j)) ∧ (∀ j k, j < k → k < m - 1 → (cutG G q j).1 ≠ (cutG G q k).1) ∧ (∀ j, j < m - 1 → (Lit.int .i64 (cutG G q j).1).wf = true) := by
  have key : ∀ j, j < m - 1 → ∃ j', j' < m ∧ j' ≠ q ∧ cutG G q j = G j' ∧ (j < q → j' = j) ∧ (¬ j < q → j' = j + 1) := by
    intro j hj
    by_cases h : j < q
    · exact ⟨j, by omega, by omega, by rw [cutG, if_pos h], fun _ => rfl, fun q' => absurd h q'⟩
    · exact ⟨j + 1, by omega, by omega, by rw [cutG, if_neg h], fun q' => absurd q' h, fun _ => rfl⟩
  refine ⟨fun j hj => ?_, fun j k hjk hk => ?_, fun j hj => ?_⟩
  · obtain ⟨j', a, b, e, _, _⟩ := key j hj
    rw [e]
    show (if (G j').1 = (G q).1 then none else F (G j').1) = _
    rw [if_neg ?_]
    · exact h1 j' a
    · intro e'
      by_cases l : j' < q
      · exact h2 j' q l hq e'
      · exact h2 q j' (by omega) a e'.symm
  · obtain ⟨j', a, _, e, p1, p2⟩ := key j (by omega)
    obtain ⟨k', a', _, e', p1', p2'⟩ := key k hk
    rw [e, e']
    refine h2 j' k' ?_ a'
    by_cases x : j < q
    · by_cases y : k < q
      · rw [p1 x, p1' y]; exact hjk
      · rw [p1 x, p2' y]; omega
    · rw [p2 x, p2' (by omega)]; omega
  · obtain ⟨j', a, _, e, _, _⟩ := key j hj
    rw [e]; exact h3 j' a
def CiInv (nx : Int) (w : World) (jm bm n m : Nat) (G : Nat → FT) (wr : World) : Prop := ∃ br F, MB wr jm (.int .i64 nx) (.map (some bm)) (.slice (some ⟨br, 0, none⟩) m m) ∧ MapI wr bm n F ∧ RowF wr br 3 m m (idF G) ∧ jm ≠ br ∧ bm ≠ br ∧ (∀ j, j < m → F (G j).1 = some (G j)) ∧ (∀ j k, j < k → k < m → (G j).1 ≠ (G k).1) ∧ (∀ j, j < m → (Lit.int .i64 (G j).1).wf = true) ∧ B2 wr (w.heap.size + 1) (.int .i64 0) (.slice none 0 0) ∧ Below w.heap.size w wr
def CuIs (nx : Int) (M : Nat → FT) (n : Nat) (nd : Int) (X : Int) (m : Nat) (G : Nat → FT) : Prop :=
  (netB nx M n = false ∧ X = 0 ∧ m = 0) ∨ (netB nx M n = true ∧ X = nx ∧ m = kc M nd n ∧ G = kF M nd n)
theorem cu_ex (nx : Int) (M : Nat → FT) (n : Nat) (nd : Int) : ∃ X m G Y C, (CuIs nx M n nd X m G ∧ Y = zF ∧ C = (0 : Int)) ∧ m ≤ n := by
  cases h : netB nx M n
  · exact ⟨0, 0, M, zF, 0, ⟨.inl ⟨h, rfl, rfl⟩, rfl, rfl⟩, Nat.zero_le _⟩
  · exact ⟨nx, kc M nd n, kF M nd n, zF, 0, ⟨.inr ⟨h, rfl, rfl, rfl⟩, rfl, rfl⟩, kc_le M nd n⟩
end Go.Proofs.Ytgfhcilhibbooaa
namespace Go.Proofs.Ytgfhcilhibbooaa
open Go.RowKit
set_option linter.unusedVariables false
theorem below_drewN6 {B : Nat} {a w : World} (h : Below B a w) (n : Nat) : Below B a (w.drewN n) := h.trans ⟨rfl, rfl, rfl, Nat.le_refl _, fun _ _ => rfl⟩
set_option maxRecDepth 100000 in
set_option maxHeartbeats 4000000 in
theorem sameFlights_any (a a' : Option Addr) (n c c' : Nat) (M : Nat → FT) (w : World) (hn : n ≤ 41) (h1 : SrcC w a (n * 5) (MFFlight M)) (h2 : SrcC w a' (n * 5) (MFFlight M)) :
    Calls Try.prog 12 #[.slice a n c, .slice a' n c'] w fun e w' => e = .returned (.bool true) ∧ Below w.heap.size w w' := by
  have H1 : Hid (SrcC w a (n * 5) (MFFlight M)) := h1
  have H2 : Hid (SrcC w a' (n * 5) (MFFlight M)) := h2
  clear h1 h2
  go_enter Try.func12, Try.ntmps12
  go_wp2_with fail
  go_loopw [5] (fun i wr => ∃ k : Nat, k ≤ n ∧ i = .int .i64 k ∧ Below w.heap.size w wr) (fun i _ => n - (intOf i).toNat)
  case atStart => exact ⟨0, Nat.zero_le _, rfl, Below.refl _ _⟩
  case round =>
    obtain ⟨k, hk, rfl, B⟩ := hrel
    by_cases hlt : k < n
    · have hli : (k : Int) < (n : Int) := by omega
      obtain ⟨x0, x1, x2, x3, x4, hM⟩ : ∃ (x0 x1 x2 : Int) (x3 : ByteArray) (x4 : Int), M k = (x0, x1, x2, x3, x4) := ⟨_, _, _, _, _, rfl⟩
      rcases H1.out with h0 | ⟨b1, f1, rfl, hc1⟩
      · omega
      rcases H2.out with h0 | ⟨b2, f2, rfl, hc2⟩
      · omega
      obtain ⟨g0, g1, g2, g3, g4⟩ := Cs.elFlight (hc1.below B hc1.1) hlt hM
      obtain ⟨t0, t1, t2, t3, t4⟩ := Cs.elFlight (hc2.below B hc2.1) hlt hM
      clear hc1 hc2
      go_wp2_with fail
      go_quiet (fail)
      go_wp2_with fail
      go_roundw
      case rel => exact ⟨k + 1, by omega, by go_num, below_drewN6 B nq⟩
      case measure => simp [intOf]; omega
    · have hkn : k = n := by omega
      subst hkn
      have hd : decide ((k : Int) < (k : Int)) = false := by simp
      go_wp2_with fail
      go_ret
      exact ⟨rfl, B⟩
end Go.Proofs.Ytgfhcilhibbooaa
