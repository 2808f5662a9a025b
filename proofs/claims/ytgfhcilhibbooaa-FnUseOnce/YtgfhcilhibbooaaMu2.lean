/- The contract of impl.bookOf. Rows of asks; the contract of a book its table. What the laws of tables keep: rows, boxes, marks. The contract of a book: ask. The contract of impl.Issue. Contracts of spec.l7Copy and spec.l7Put. -/
import Derived.Test.YtgfhcilhibbooaaMu1
import Derived.Deep.RegionHeld3
import Derived.Deep.DeepCutAuto
import Derived.WalkKit
import Derived.WalkSpells
import Derived.WalkLawsBesides
import Derived.Deep.RegionHeld
import Derived.Deep.DeepAppendRoom
namespace Go.Proofs.Ytgfhcilhibbooaa
open Go.RowKit
set_option linter.unusedVariables false
def zbk : Value := .agg #[.int .i64 0, .int .i64 0, .map none]
theorem tOk_le {ep us : Int} {M : Nat → KT} : ∀ {n k : Nat}, k ≤ n → tOk ep us M n = true → tOk ep us M k = true
  | 0, k, h, ht => by (have : k = 0 := by omega); subst this; exact ht
  | n + 1, k, h, ht => by
    by_cases e : k = n + 1
    · subst e; exact ht
    · rw [tOk, Bool.and_eq_true] at ht
      exact tOk_le (by omega) ht.1
theorem tOk_el {ep us : Int} {M : Nat → KT} {n k : Nat} (ht : tOk ep us M n = true) (h : k < n) : elB ep us M k = true := by
  have := tOk_le (k := k + 1) (by omega) ht
  rw [tOk, Bool.and_eq_true] at this
  exact this.2
theorem tOk_asc {ep us : Int} {M : Nat → KT} {n : Nat} (ht : tOk ep us M n = true) : Asc M n := by
  intro i j hij hj
  induction j with
  | zero => omega
  | succ j ih =>
    have h1 := tOk_el ht hj
    simp only [elB, lsB, Bool.and_eq_true, decide_eq_true_eq] at h1
    have h2 := h1.1.2
    by_cases e : i = j
    · subst e; exact h2
    · have := ih (by omega) (by omega); omega
theorem tabB_tOk {ep us : Int} {M : Nat → KT} {n : Nat} (h : tabB ep us M n = true) : tOk ep us M n = true := by
  rw [tabB, Bool.and_eq_true] at h
  exact h.2
theorem tabB_len' {ep us : Int} {M : Nat → KT} {n : Nat} (h : tabB ep us M n = true) : n ≤ 16 := by
  rw [tabB] at h
  simp only [Bool.and_eq_true, decide_eq_true_eq] at h
  exact h.1.2
theorem tabB_nums {ep us : Int} {M : Nat → KT} {n : Nat} (h : tabB ep us M n = true) : (0 ≤ ep ∧ ep ≤ 100000) ∧ 0 ≤ us ∧ us ≤ 1000 := by
  rw [tabB, epB, usB] at h
  simp only [Bool.and_eq_true, decide_eq_true_eq] at h
  exact ⟨h.1.1.1, h.1.1.2⟩
set_option maxRecDepth 100000 in
set_option maxHeartbeats 16000000 in
theorem bookOf_any (ep us : Int) (a : Option Addr) (n c : Nat) (M : Nat → KT) (w : World) (hm : n ≤ maxLen) (hf : SrcC w a (n * 4) (MFAsk M)) (hw : ∀ i, i < n → (Lit.int .i64 (M i).1).wf = true) :
    Calls Try.prog 38 #[.agg #[.int .i64 ep, .int .i64 us, .slice a n c]] w fun e w' => ∃ V : Value, e = .returned (.tuple #[V, .bool (tabB ep us M n)]) ∧ (tabB ep us M n = false → V = zbk) ∧ (tabB ep us M n = true → ∃ bm, V = .agg #[.int .i64 ep, .int .i64 us, .map (some bm)] ∧ w.heap.size ≤ bm ∧ MapK w' bm n (lkK M n)) ∧ Below w.heap.size w w' := by
  have HF : Hid (SrcC w a (n * 4) (MFAsk M)) := hf
  have HW : Hid (∀ i, i < n → (Lit.int .i64 (M i).1).wf = true) := hw
  clear hf hw
  have z1 : (w.alloc (.cells #[.int .i64 ep, .int .i64 us, .slice a n c] 39)).heap.size = w.heap.size + 1 := by simp
  have N := (IB3.new w ep us a n c 39).below (Below.nw _ (.cells #[.int .i64 0, .int .i64 0, .map none] 72))
  have R := Bx3.new (w.alloc (.cells #[.int .i64 ep, .int .i64 us, .slice a n c] 39)) (.int .i64 0) (.int .i64 0) (.map none) 72
  rw [z1] at R
  have B := (Below.nw w (.cells #[.int .i64 ep, .int .i64 us, .slice a n c] 39)).trans ((Below.nw (w.alloc (.cells #[.int .i64 ep, .int .i64 us, .slice a n c] 39)) (.cells #[.int .i64 0, .int .i64 0, .map none] 72)).mono (by simp))
  have C := implTab_any ep us a n c M _ hm (HF.out.below B) HW.out
  clear z1
  go_enter Try.func38, Try.ntmps38
  go_upto_region 1 with fail
  generalize (w.alloc (.cells #[.int .i64 ep, .int .i64 us, .slice a n c] 39)).alloc (.cells #[.int .i64 0, .int .i64 0, .map none] 72) = wa at *
  obtain ⟨n9, n0, n1, n2⟩ := id N
  go_wp2_with fail
  refine C.mono ?_
  rintro e wz ⟨rfl, hb⟩
  clear n9 n0 n1 n2
  replace N := N.below hb
  replace R := R.below hb
  replace B := B.trans (hb.mono B.size)
  clear hb C
  cases ht : tabB ep us M n
  · have HT : Hid (tabB ep us M n = false) := ht
    clear ht
    have RQ := R.set (.int .i64 0) (.int .i64 0) (.map none)
    have BQ : Below w.heap.size w (((wz.setCell ⟨w.heap.size + 1, 0, none⟩ (.int .i64 0)).setCell ⟨w.heap.size + 1, 1, none⟩ (.int .i64 0)).setCell ⟨w.heap.size + 1, 2, none⟩ (.map none)) := ((B.setCell (by simp) _).setCell (by simp) _).setCell (by simp) _
    obtain ⟨r0, r1, r2, r3, r4, r5, r6⟩ := R
    go_wp2_with fail
    generalize (((wz.setCell ⟨w.heap.size + 1, 0, none⟩ (.int .i64 0)).setCell ⟨w.heap.size + 1, 1, none⟩ (.int .i64 0)).setCell ⟨w.heap.size + 1, 2, none⟩ (.map none)) = wq at *
    obtain ⟨q0, q1, q2, q3, q4, q5, q6⟩ := RQ
    exact bodyPost_ret (v := .tuple #[zbk, .bool false]) (by simp (maxDischargeDepth := 6) [zbk, results, Try.results38, go_sem, q1, q2, q3]) rfl ⟨zbk, by rw [HT.out], fun _ => rfl, fun h => (by rw [HT.out] at h; cases h), BQ⟩
  · have hn := tabB_len' ht
    have HT : Hid (tabB ep us M n = true) := ht
    clear ht hm
    go_upto_region 3 with fail
    have hmm := run_mkmapK n
    obtain ⟨n9, n0, n1, n2⟩ := id N
    go_cut [4] (fun s4 wx => ∃ bx bm : Nat, s4 = .pointer (some ⟨bx, 0, none⟩) ∧ w.heap.size + 1 < bx ∧ w.heap.size + 1 < bm ∧ bx ≠ bm ∧ Bx3 wx bx (.int .i64 ep) (.int .i64 us) (.map (some bm)) ∧ MapK wx bm 0 (fun _ => none) ∧ IB3 wx w.heap.size ep us a n c ∧ Bx3 wx (w.heap.size + 1) (.int .i64 0) (.int .i64 0) (.map none) ∧ Below w.heap.size w wx)
    case first =>
      refine wp_region_held_drew (S := (fun w' => w'.cell? ⟨w.heap.size, 0, none⟩ = some (.int .i64 ep) ∧ w'.cell? ⟨w.heap.size, 1, none⟩ = some (.int .i64 us) ∧ w'.cell? ⟨w.heap.size, 2, none⟩ = some (.slice a n c))) (by kernel_rfl) ?_ (fun hHeld => ?_)
      · first | exact ⟨n0, n1, n2⟩ | (simp (maxDischargeDepth := 6) [go_sem, *]; done)
      clear n9 n0 n1 n2
      replace N := N.drew
      replace R := R.drew
      replace B := Below.drew B
      have hR0 : w.heap.size + 1 < wz.drew.heap.size := R.1
      generalize wz.drew = v0 at *
      obtain ⟨n9, n0, n1, n2⟩ := id N
      refine wpAnyH_take (i := 0) (v := ?_) (by rw [List.getElem?_toArray]; rfl) (by kernel_rfl) (by kernel_rfl) (by kernel_rfl) (by intro _ _ _ h; exact h) (Or.inl ⟨by rfl, ?_⟩) (by assumption) ?_
      rotate_left
      · (intro w hSw; (try dsimp only at hSw); go_simp; all_goals with_reducible rfl)
      (try simp only [Act.put, List.setIfInBounds_toArray, List.set_cons_zero, List.set_cons_succ])
      refine wpAnyH_take (i := 1) (v := ?_) (by rw [List.getElem?_toArray]; rfl) (by kernel_rfl) (by kernel_rfl) (by kernel_rfl) (by intro _ _ _ h; exact h) (Or.inl ⟨by rfl, ?_⟩) (by assumption) ?_
      rotate_left
      · (intro w hSw; (try dsimp only at hSw); go_simp; all_goals with_reducible rfl)
      (try simp only [Act.put, List.setIfInBounds_toArray, List.set_cons_zero, List.set_cons_succ])
      refine wpAnyH_take (i := 2) (v := ?_) (by rw [List.getElem?_toArray]; rfl) (by kernel_rfl) (by kernel_rfl) (by kernel_rfl) (by intro _ _ _ h; exact h) (Or.inl ⟨by rfl, ?_⟩) (by assumption) ?_
      rotate_left
      · (intro w hSw; (try dsimp only at hSw); go_simp; all_goals with_reducible rfl)
      (try simp only [Act.put, List.setIfInBounds_toArray, List.set_cons_zero, List.set_cons_succ])
      refine wpAnyH_take (i := 3) (v := ?_) (by rw [List.getElem?_toArray]; rfl) (by kernel_rfl) (by kernel_rfl) (by kernel_rfl) (by intro _ _ _ h; exact h) (Or.inl ⟨by rfl, ?_⟩) (by assumption) ?_
      rotate_left
      · (intro w hSw; (try dsimp only at hSw); go_simp; all_goals with_reducible rfl)
      (try simp only [Act.put, List.setIfInBounds_toArray, List.set_cons_zero, List.set_cons_succ])
      refine wpAnyH_take (i := 4) (v := ?_) (by rw [List.getElem?_toArray]; rfl) (by kernel_rfl) (by kernel_rfl) (by kernel_rfl) (by intro _ _ _ h; exact h) (Or.inl ⟨by rfl, ?_⟩) (by assumption) ?_
      rotate_left
      · (intro w hSw; (try dsimp only at hSw); go_simp; all_goals with_reducible rfl)
      (try simp only [Act.put, List.setIfInBounds_toArray, List.set_cons_zero, List.set_cons_succ])
      refine wpAnyH_take (i := 5) (v := ?_) (by rw [List.getElem?_toArray]; rfl) (by kernel_rfl) (by kernel_rfl) (by kernel_rfl) (by intro _ _ _ h; exact h) (Or.inl ⟨by rfl, ?_⟩) (by assumption) ?_
      rotate_left
      · (intro w hSw; (try dsimp only at hSw); go_simp; all_goals with_reducible rfl)
      (try simp only [Act.put, List.setIfInBounds_toArray, List.set_cons_zero, List.set_cons_succ])
      refine wpAnyH_take (i := 6) (v := ?_) (by rw [List.getElem?_toArray]; rfl) (by kernel_rfl) (by kernel_rfl) (by kernel_rfl) (by intro _ _ _ h; exact h) (Or.inl ⟨by rfl, ?_⟩) (by assumption) ?_
      rotate_left
      · (intro w hSw; (try dsimp only at hSw); go_simp; all_goals with_reducible rfl)
      (try simp only [Act.put, List.setIfInBounds_toArray, List.set_cons_zero, List.set_cons_succ])
      refine wpAnyH_ready (rs := [7, 9]) (by kernel_rfl) (by simp) ?_
      refine (AllReadyH.cons (by rw [List.getElem?_toArray]; rfl) (fun K hK => ?_) (AllReadyH.cons (by rw [List.getElem?_toArray]; rfl) (fun K hK => ?_) AllReadyH.nil))
      · go_simp
        (have A := Below.nw v0 (.map #[] 0)); (have MP := MapK.made v0); (replace N := N.below A); (replace R := R.below A); (have hlt0 : v0.heap.size < (v0.alloc (.map #[] 0)).heap.size := by simp); (replace B := B.trans (A.mono B.size)); clear A n9 n0 n1 n2; (generalize v0.alloc (.map #[] 0) = v1 at *); obtain ⟨n9, n0, n1, n2⟩ := id N
        refine hK.out _ _ ?_ (fun hHeld => ?_)
        · first | exact ⟨n0, n1, n2⟩ | (simp (maxDischargeDepth := 6) [go_sem, *]; done)
        clear hK K
        (try simp only [Act.put, List.setIfInBounds_toArray, List.set_cons_zero, List.set_cons_succ])
        refine wpAnyH_take (i := 8) (v := ?_) (by rw [List.getElem?_toArray]; rfl) (by kernel_rfl) (by kernel_rfl) (by kernel_rfl) (by intro _ _ _ h; exact h) (Or.inl ⟨by rfl, ?_⟩) (by assumption) ?_
        rotate_left
        · (intro w hSw; (try dsimp only at hSw); go_simp; all_goals with_reducible rfl)
        (try simp only [Act.put, List.setIfInBounds_toArray, List.set_cons_zero, List.set_cons_succ])
        refine wpAnyH_ready (rs := [9]) (by kernel_rfl) (by simp) ?_
        refine (AllReadyH.cons (by rw [List.getElem?_toArray]; rfl) (fun K hK => ?_) AllReadyH.nil)
        go_simp
        (have A := Below.nw v1 (.cells #[.int .i64 0, .int .i64 0, .map none] 72)); (replace MP := MP.below A); (have X := Bx3.new v1 (.int .i64 0) (.int .i64 0) (.map none) 72); (replace N := N.below A); (replace R := R.below A); (have hlt1 : v1.heap.size < (v1.alloc (.cells #[.int .i64 0, .int .i64 0, .map none] 72)).heap.size := by simp); (replace B := B.trans (A.mono B.size)); clear A n9 n0 n1 n2; (generalize v1.alloc (.cells #[.int .i64 0, .int .i64 0, .map none] 72) = v2 at *); obtain ⟨n9, n0, n1, n2⟩ := id N; obtain ⟨k0, k1, k2, k3, k4, k5, k6⟩ := id X
        refine hK.out _ _ ?_ (fun hHeld => ?_)
        · first | exact ⟨n0, n1, n2⟩ | (simp (maxDischargeDepth := 6) [go_sem, *]; done)
        clear hK K
        (try simp only [Act.put, List.setIfInBounds_toArray, List.set_cons_zero, List.set_cons_succ])
        refine wpAnyH_ready (rs := [10]) (by kernel_rfl) (by simp) ?_
        refine (AllReadyH.cons (by rw [List.getElem?_toArray]; rfl) (fun K hK => ?_) AllReadyH.nil)
        go_simp
        refine hK.out _ _ ?_ (fun hHeld => ?_)
        · first | exact ⟨n0, n1, n2⟩ | (simp (maxDischargeDepth := 6) [go_sem, *]; done)
        clear hK K
        (try simp only [Act.put, List.setIfInBounds_toArray, List.set_cons_zero, List.set_cons_succ])
        refine wpAnyH_done (by kernel_rfl) ?_ _
        go_wp2_with fail
        go_meet
        case rel =>
          have PB := put3_butK v2 (v1.heap.size) (.int .i64 ep) (.int .i64 us) (.map (some (v0.heap.size)))
          have l0 := R.1
          exact ⟨v1.heap.size, v0.heap.size, rfl, by omega, by omega, by omega, X.set _ _ _, MP.but PB (by omega), N.but PB (by omega), R.but PB (by omega), B.trans (PB.below (by omega) B.size)⟩
      · go_simp
        (have A := Below.nw v0 (.cells #[.int .i64 0, .int .i64 0, .map none] 72)); (have X := Bx3.new v0 (.int .i64 0) (.int .i64 0) (.map none) 72); (replace N := N.below A); (replace R := R.below A); (have hlt0 : v0.heap.size < (v0.alloc (.cells #[.int .i64 0, .int .i64 0, .map none] 72)).heap.size := by simp); (replace B := B.trans (A.mono B.size)); clear A n9 n0 n1 n2; (generalize v0.alloc (.cells #[.int .i64 0, .int .i64 0, .map none] 72) = v1 at *); obtain ⟨n9, n0, n1, n2⟩ := id N
        refine hK.out _ _ ?_ (fun hHeld => ?_)
        · first | exact ⟨n0, n1, n2⟩ | (simp (maxDischargeDepth := 6) [go_sem, *]; done)
        clear hK K
        (try simp only [Act.put, List.setIfInBounds_toArray, List.set_cons_zero, List.set_cons_succ])
        refine wpAnyH_ready (rs := [7]) (by kernel_rfl) (by simp) ?_
        refine (AllReadyH.cons (by rw [List.getElem?_toArray]; rfl) (fun K hK => ?_) AllReadyH.nil)
        go_simp
        (have A := Below.nw v1 (.map #[] 0)); (replace X := X.below A); (have MP := MapK.made v1); (replace N := N.below A); (replace R := R.below A); (have hlt1 : v1.heap.size < (v1.alloc (.map #[] 0)).heap.size := by simp); (replace B := B.trans (A.mono B.size)); clear A n9 n0 n1 n2; (generalize v1.alloc (.map #[] 0) = v2 at *); obtain ⟨n9, n0, n1, n2⟩ := id N; obtain ⟨k0, k1, k2, k3, k4, k5, k6⟩ := id X
        refine hK.out _ _ ?_ (fun hHeld => ?_)
        · first | exact ⟨n0, n1, n2⟩ | (simp (maxDischargeDepth := 6) [go_sem, *]; done)
        clear hK K
        (try simp only [Act.put, List.setIfInBounds_toArray, List.set_cons_zero, List.set_cons_succ])
        refine wpAnyH_take (i := 8) (v := ?_) (by rw [List.getElem?_toArray]; rfl) (by kernel_rfl) (by kernel_rfl) (by kernel_rfl) (by intro _ _ _ h; exact h) (Or.inl ⟨by rfl, ?_⟩) (by assumption) ?_
        rotate_left
        · (intro w hSw; (try dsimp only at hSw); go_simp; all_goals with_reducible rfl)
        (try simp only [Act.put, List.setIfInBounds_toArray, List.set_cons_zero, List.set_cons_succ])
        refine wpAnyH_ready (rs := [10]) (by kernel_rfl) (by simp) ?_
        refine (AllReadyH.cons (by rw [List.getElem?_toArray]; rfl) (fun K hK => ?_) AllReadyH.nil)
        go_simp
        refine hK.out _ _ ?_ (fun hHeld => ?_)
        · first | exact ⟨n0, n1, n2⟩ | (simp (maxDischargeDepth := 6) [go_sem, *]; done)
        clear hK K
        (try simp only [Act.put, List.setIfInBounds_toArray, List.set_cons_zero, List.set_cons_succ])
        refine wpAnyH_done (by kernel_rfl) ?_ _
        go_wp2_with fail
        go_meet
        case rel =>
          have PB := put3_butK v2 (v0.heap.size) (.int .i64 ep) (.int .i64 us) (.map (some (v1.heap.size)))
          have l0 := R.1
          exact ⟨v0.heap.size, v1.heap.size, rfl, by omega, by omega, by omega, X.set _ _ _, MP.but PB (by omega), N.but PB (by omega), R.but PB (by omega), B.trans (PB.below (by omega) B.size)⟩
    case rest =>
      obtain ⟨bx, bm, rfl, hbx, hbm, hxm, X', MP', N', R', B'⟩ := hcut
      clear N R B hmm
      obtain ⟨n9, n0, n1, n2⟩ := id N'
      go_wp2_with fail
      go_loopw [23] (fun i wr => ∃ k : Nat, k ≤ n ∧ i = .int .i64 k ∧ Bx3 wr bx (.int .i64 ep) (.int .i64 us) (.map (some bm)) ∧ MapK wr bm k (lkK M k) ∧ IB3 wr w.heap.size ep us a n c ∧ Bx3 wr (w.heap.size + 1) (.int .i64 0) (.int .i64 0) (.map none) ∧ Below w.heap.size w wr) (fun i _ => n - (vI i).toNat)
      case atStart => exact ⟨0, Nat.zero_le _, rfl, X', MP', N', R', B'⟩
      case round =>
        obtain ⟨k, hk, rfl, X, MP, N, R, B⟩ := hrel
        clear X' MP' N' R' B' n9 n0 n1 n2
        by_cases hlt : k < n
        · rcases HF.out with h0 | ⟨b, off, rfl, hfs⟩
          · omega
          have bw := hfs.1
          obtain ⟨x0, x1, x2, x3, hM⟩ := tupAsk M k
          obtain ⟨c0, c1, c2, c3⟩ := (hfs.below B bw).elAsk hlt hM
          have hli : (k : Int) < (n : Int) := by omega
          have hwf : (Lit.int .i64 x0).wf = true := by have := HW.out k hlt; rw [hM] at this; exact this
          have HMK : Hid (M k = kT x0 x1 x2 x3) := hM
          have HLK : Hid (∀ y, lkK M (k + 1) y = if y = x0 then some (M k) else lkK M k y) := lkK_step (show (M k).1 = x0 by rw [hM])
          have bwr : b < wr.heap.size := Nat.lt_of_lt_of_le bw B.size
          clear hM hfs
          have A1 := Below.nw wr (.cells #[.int .i64 x0, .int .i64 x1, .int .i64 x2, .int .i64 x3] 43)
          have FB := Bk4.new wr x0 x1 x2 x3 43
          have hxf := X.1
          have hmf := MP.lt
          have hfb := R.1
          obtain ⟨_, m0, m1, m2, -, -, -⟩ := id X
          go_upto_region 7 with fail
          clear c0 c1 c2 c3 m0 m1 m2
          replace X := X.below A1
          replace MP := MP.below A1
          replace N := N.below A1
          replace R := R.below A1
          replace B := B.trans (A1.mono B.size)
          generalize hbf : wr.heap.size = bf at *
          generalize wr.alloc (.cells #[.int .i64 x0, .int .i64 x1, .int .i64 x2, .int .i64 x3] 43) = w7 at *
          clear A1
          obtain ⟨w10, hup, MP1, hg⟩ := MP.put hwf (by unfold maxLen; omega) (kT x0 x1 x2 x3)
          simp only [kv, kT] at hup
          obtain ⟨_, m0, m1, m2, -, -, -⟩ := id X
          obtain ⟨f9, f0, f1, f2, f3⟩ := id FB
          go_upto_region 8 with fail
          clear m0 m1 m2 f9 f0 f1 f2 f3 hup MP
          have PB := But.ofGrownK hg
          replace X := X.but PB hxm
          replace N := N.but PB (by omega)
          replace R := R.but PB (by omega)
          replace B := B.trans (PB.below (B := w.heap.size) (by omega) B.size)
          replace MP1 : MapK w10 bm (k + 1) (lkK M (k + 1)) := MP1.congr (fun y => by rw [HLK.out y, HMK.out])
          clear hg PB
          go_wp2_with fail
          go_roundw
          case rel => exact ⟨k + 1, by omega, by go_num, X, MP1, N, R, B⟩
          case measure => simp [vI]; omega
        · have hkn : k = n := by omega
          subst hkn
          have hli : ¬ (k : Int) < (k : Int) := by omega
          have RQ := R.set (.int .i64 ep) (.int .i64 us) (.map (some bm))
          have PB := put3_butK wr (w.heap.size + 1) (.int .i64 ep) (.int .i64 us) (.map (some bm))
          have MQ := MP.but PB (by omega)
          have BQ := B.trans (PB.below (B := w.heap.size) (by omega) B.size)
          obtain ⟨r0, r1, r2, r3, r4, r5, r6⟩ := R
          obtain ⟨y0, y1, y2, y3, -, -, -⟩ := X
          go_wp2_with fail
          clear MP
          generalize (((wr.setCell ⟨w.heap.size + 1, 0, none⟩ (.int .i64 ep)).setCell ⟨w.heap.size + 1, 1, none⟩ (.int .i64 us)).setCell ⟨w.heap.size + 1, 2, none⟩ (.map (some bm))) = wq at *
          obtain ⟨q0, q1, q2, q3, q4, q5, q6⟩ := RQ
          exact bodyPost_ret (v := .tuple #[.agg #[.int .i64 ep, .int .i64 us, .map (some bm)], .bool true]) (by simp (maxDischargeDepth := 6) [results, Try.results38, go_sem, q1, q2, q3]) rfl ⟨_, by rw [HT.out], fun h => (by rw [HT.out] at h; cases h), fun _ => ⟨bm, rfl, by omega, MQ⟩, BQ⟩
end Go.Proofs.Ytgfhcilhibbooaa
namespace Go.Proofs.Ytgfhcilhibbooaa
open Go.RowKit
set_option linter.unusedVariables false
def krow (G : Nat → KT) (m : Nat) : List Value := (List.range (m * 4)).map (MFAsk G)
theorem krow_len (G : Nat → KT) (m : Nat) : (krow G m).length = m * 4 := by simp [krow]
theorem krow_add {G : Nat → KT} {k : Nat} {x0 x1 x2 x3 : Int} (h : G k = (x0, x1, x2, x3)) : krow G k ++ [.int .i64 x0, .int .i64 x1, .int .i64 x2, .int .i64 x3] = krow G (k + 1) := by
  obtain ⟨q0, q1, q2, q3⟩ := MFAsk_vals h
  unfold krow
  rw [show (k + 1) * 4 = k * 4 + 1 + 1 + 1 + 1 by omega, List.range_succ, List.range_succ, List.range_succ, List.range_succ]
  simp only [List.map_append, List.map_cons, List.map_nil, List.append_assoc, List.cons_append, List.nil_append]
  rw [q0, q1, q2, q3]
theorem krow_one (G : Nat → KT) (m : Nat) : ∀ v ∈ krow G m, v.oneCell' = true := by
  intro v hv
  simp only [krow, List.mem_map] at hv
  obtain ⟨j, _, rfl⟩ := hv
  unfold MFAsk MCAsk
  split <;> rfl
theorem krow_get {G : Nat → KT} {m k : Nat} {v : Value} (h : (krow G m)[k]? = some v) : k < m * 4 ∧ v = MFAsk G k := by
  have hk : k < (krow G m).length := (List.getElem?_eq_some_iff.1 h).1
  rw [krow_len] at hk
  refine ⟨hk, ?_⟩
  simp [krow, hk] at h
  exact h.symm
theorem krow_congr {G H : Nat → KT} {m : Nat} (h : ∀ j, j < m → G j = H j) : krow G m = krow H m := by
  unfold krow
  refine List.map_congr_left fun j hj => ?_
  rw [List.mem_range] at hj
  unfold MFAsk
  rw [h (j / 4) (by omega)]
theorem four_at (w : World) (x0 x1 x2 x3 : Int) (T : TypeId) (j : Nat) (u : Value) (h : [Value.int .i64 x0, .int .i64 x1, .int .i64 x2, .int .i64 x3][j]? = some u) : (w.alloc (.cells #[.int .i64 x0, .int .i64 x1, .int .i64 x2, .int .i64 x3] T)).cell? ((⟨w.heap.size, 0, none⟩ : Addr).add j) = some u := by
  match j, h with
  | 0, h => simp at h; subst h; simp [Addr.add]
  | 1, h => simp at h; subst h; simp [Addr.add]
  | 2, h => simp at h; subst h; simp [Addr.add]
  | 3, h => simp at h; subst h; simp [Addr.add]
theorem four_one (x0 x1 x2 x3 : Int) : ∀ u ∈ [Value.int .i64 x0, .int .i64 x1, .int .i64 x2, .int .i64 x3], u.oneCell' = true := by
  intro u hu; simp at hu; rcases hu with rfl | rfl | rfl | rfl <;> rfl
theorem infoK_parts : ∃ i, Try.prog.info? 43 = some i ∧ i.zero = some (.agg #[.int .i64 0, .int .i64 0, .int .i64 0, .int .i64 0]) ∧ i.size = 4 ∧ i.bytes = 32 := by
  obtain ⟨i, hi, hz⟩ := Option.map_eq_some_iff.1 infoAsk
  simp only [Prod.mk.injEq] at hz
  exact ⟨i, hi, hz.1, hz.2.1, hz.2.2⟩
theorem own_neK {w w' : World} {base p : Nat} {e : TypeId} {size : Nat} {v : Value} {n : Nat} {xs : List Value} (h : w.ownsRow base e size v n xs) (hb : But p w w') (hp : ∀ g, v.ownBlock = some g → g ≠ p) : w'.ownsRow base e size v n xs := by
  refine World.ownsRow.kept h hb.grK ?_
  cases hv : v.ownBlock with
  | none => exact .inl rfl
  | some k =>
    right
    intro e
    injection e with e
    exact hp k hv e
theorem own_butK {w w' : World} {base p : Nat} {e : TypeId} {size : Nat} {v : Value} {n : Nat} {xs : List Value} (h : w.ownsRow base e size v n xs) (hb : But p w w') (hp : p < base) : w'.ownsRow base e size v n xs :=
  own_neK h hb fun g hg e => by have := (World.ownsRow.lt h g hg).1; omega
theorem own_belK {w w' : World} {B base : Nat} {e : TypeId} {size : Nat} {v : Value} {n : Nat} {xs : List Value} (h : w.ownsRow base e size v n xs) (hb : Below B w w') (hlt : ∀ g, v.ownBlock = some g → g < B) : w'.ownsRow base e size v n xs := by
  refine ⟨h.1, ?_⟩
  rcases h.2 with h | ⟨g, cap, cur, rfl, h2, h3, h4⟩
  · exact .inl h
  · exact .inr ⟨g, cap, cur, rfl, h2, (hb.block g (hlt g rfl)).trans h3, h4⟩
theorem own_belK' {w w' : World} {base : Nat} {e : TypeId} {size : Nat} {v : Value} {n : Nat} {xs : List Value} (h : w.ownsRow base e size v n xs) (hb : Below w.heap.size w w') : w'.ownsRow base e size v n xs := own_belK h hb fun g hg => (World.ownsRow.lt h g hg).2
theorem ownK_le {w : World} {base base' : Nat} {e : TypeId} {size : Nat} {v : Value} {n : Nat} {xs : List Value} (h : w.ownsRow base e size v n xs) (hb : base' ≤ base) : w.ownsRow base' e size v n xs := by
  refine ⟨h.1, ?_⟩
  rcases h.2 with h | ⟨g, cap, cur, h1, h2, h3, h4⟩
  · exact .inl h
  · exact .inr ⟨g, cap, cur, h1, Nat.le_trans hb h2, h3, h4⟩
theorem grown_belowK {w w' : World} {base : Nat} {e : TypeId} {size : Nat} {v : Value} {n : Nat} {xs : List Value} (h : w.ownsRow base e size v n xs) (hg : w.grownBy w' v.ownBlock) (hs : base ≤ w.heap.size) : Below base w w' :=
  ⟨hg.os, hg.tape, hg.output, hg.size, fun k hk => hg.block k (by omega) (fun he => by have := (World.ownsRow.lt h k he.symm).1; omega)⟩
theorem own_srcK {w : World} {base n c : Nat} {a : Option Addr} {G : Nat → KT} (h : w.ownsRow base 43 4 (.slice a n c) n (krow G n)) : SrcC w a (n * 4) (MFAsk G) := by
  obtain ⟨a2, c2, e2, _, _, S⟩ := ownF_src h
  injection e2 with e2 e3 e4
  subst e2
  exact S
theorem mk_rowAsk0 (m : Nat) (h : m ≤ 1048576) (w : World) : (Instr.makeSlice 37 (.int .i64 0) (.int .i64 (m : Int))).run Try.prog w = .ok (.slice (some ⟨w.heap.size, 0, none⟩) 0 m) (w.alloc (rowObjAsk m)) := by
  obtain ⟨i, hi, hz⟩ := Option.map_eq_some_iff.1 infoAsk
  simp only [Prod.mk.injEq] at hz
  obtain ⟨h1, h2, h3⟩ := hz
  have hr := run_make (P := Try.prog) w 37 43 i _ Try.underlying37 hi h1 .i64 .i64 0 m (by omega) (by omega) (by rw [h3]; omega) (by omega)
  simp only [Int.toNat_natCast, h2, Int.toNat_zero] at hr
  exact hr
theorem MapK.wf {w : World} {b n m : Nat} {F : Int → Option KT} {A : Nat → KT} (h : MapK w b n F) (hF : FA F A m) : ∀ j, j < m → (Lit.int .i64 (A j).1).wf = true := by
  obtain ⟨D, h1, h2, _⟩ := h.keys hF
  intro j hj
  exact intKeys_wf h1 Try.underlying3 _ (h2.mem_iff.1 (nzs_mem.2 ⟨j, hj, rfl⟩))
theorem MapK.size {w : World} {b n m : Nat} {F : Int → Option KT} {A : Nat → KT} (h : MapK w b n F) (hF : FA F A m) : m ≤ n := by
  obtain ⟨D, h1, _, h3⟩ := h.keys hF
  have := h1.size_le
  omega
set_option maxRecDepth 100000 in
set_option maxHeartbeats 16000000 in
theorem table_any (bx bm n m : Nat) (ep us : Int) (F : Int → Option KT) (A : Nat → KT) (w : World) (X : Bx3 w bx (.int .i64 ep) (.int .i64 us) (.map (some bm))) (MP : MapK w bm n F) (hn : n ≤ 1000) (hF : FA F A m) :
    Calls Try.prog 39 #[.pointer (some ⟨bx, 0, none⟩)] w fun e w' => ∃ a' c', e = .returned (.agg #[.int .i64 ep, .int .i64 us, .slice a' m c']) ∧ w'.ownsRow w.heap.size 43 4 (.slice a' m c') m (krow A m) ∧ Below w.heap.size w w' := by
  have hm : m ≤ 1000 := by have := MP.size hF; omega
  have HWF : Hid (∀ j, j < m → (Lit.int .i64 (A j).1).wf = true) := MP.wf hF
  have HFA : Hid (FA F A m) := hF
  clear hF
  obtain ⟨i0, hi, hz0, hz1, hz2⟩ := infoK_parts
  have A0 := Below.nw w (.cells #[.int .i64 0, .int .i64 0, .slice none 0 0] 39)
  have R := Bx3.new w (.int .i64 0) (.int .i64 0) (.slice none 0 0) 39
  have hbx := X.1
  have hbm := MP.lt
  replace X := X.below A0
  replace MP := MP.below A0
  have B := A0
  clear A0
  go_enter Try.func39, Try.ntmps39
  go_upto_region 1 with fail
  generalize w.alloc (.cells #[.int .i64 0, .int .i64 0, .slice none 0 0] 39) = wz at *
  have hmk := mk_rowAsk0 m (by omega)
  obtain ⟨x0, x1, x2, x3, -, -, -⟩ := id X
  have HLEN : Hid (∀ W : World, MapK W bm n F → ∀ ty, (Builtin.len_ #[70] ty #[.map (some bm)]).run Try.prog W = .ok (.int .i64 (m : Int)) W) := fun W h ty => h.len HFA.out ty
  go_cut [3] (fun s3 wx => ∃ bo br : Nat, s3 = .pointer (some ⟨bo, 0, none⟩) ∧ w.heap.size < bo ∧ w.heap.size < br ∧ bo ≠ br ∧ Bx3 wx bo (.int .i64 ep) (.int .i64 us) (.slice (some ⟨br, 0, none⟩) 0 m) ∧ wx.ownsRow (w.heap.size + 1) 43 4 (.slice (some ⟨br, 0, none⟩) 0 m) 0 [] ∧ Bx3 wx bx (.int .i64 ep) (.int .i64 us) (.map (some bm)) ∧ MapK wx bm n F ∧ Bx3 wx w.heap.size (.int .i64 0) (.int .i64 0) (.slice none 0 0) ∧ Below w.heap.size w wx)
  case first =>
    refine wp_region_held_drew (S := (fun w' => w'.cell? ⟨bx, 0, none⟩ = some (.int .i64 ep) ∧ w'.cell? ⟨bx, 1, none⟩ = some (.int .i64 us) ∧ w'.cell? ⟨bx, 2, none⟩ = some (.map (some bm)) ∧ ∀ ty, (Builtin.len_ #[70] ty #[.map (some bm)]).run Try.prog w' = .ok (.int .i64 (m : Int)) w')) (by kernel_rfl) ?_ (fun hHeld => ?_)
    · first | exact ⟨x1, x2, x3, HLEN.out _ MP⟩ | (refine ⟨?_, ?_, ?_, HLEN.out _ (((MP.setCell ?_ _).setCell ?_ _).setCell ?_ _)⟩ <;> first | (simp (maxDischargeDepth := 6) [go_sem, *]; done) | (simp; omega))
    clear x0 x1 x2 x3
    replace X := X.drew
    replace MP := MP.drew
    replace R := R.drew
    replace B := Below.drew B
    have hR0 : w.heap.size < wz.drew.heap.size := R.1
    generalize wz.drew = v0 at *
    obtain ⟨x0, x1, x2, x3, -, -, -⟩ := id X
    refine wpAnyH_take (i := 0) (v := ?_) (by rw [List.getElem?_toArray]; rfl) (by kernel_rfl) (by kernel_rfl) (by kernel_rfl) (by intro _ _ _ h; exact h) (Or.inl ⟨by rfl, ?_⟩) (by assumption) ?_
    rotate_left
    · (intro w hSw; (try dsimp only at hSw); go_simp; all_goals with_reducible rfl)
    (try simp only [Act.put, List.setIfInBounds_toArray, List.set_cons_zero, List.set_cons_succ])
    refine wpAnyH_take (i := 1) (v := ?_) (by rw [List.getElem?_toArray]; rfl) (by kernel_rfl) (by kernel_rfl) (by kernel_rfl) (by intro _ _ _ h; exact h) (Or.inl ⟨by rfl, ?_⟩) (by assumption) ?_
    rotate_left
    · (intro w hSw; (try dsimp only at hSw); go_simp; all_goals with_reducible rfl)
    (try simp only [Act.put, List.setIfInBounds_toArray, List.set_cons_zero, List.set_cons_succ])
    refine wpAnyH_take (i := 2) (v := ?_) (by rw [List.getElem?_toArray]; rfl) (by kernel_rfl) (by kernel_rfl) (by kernel_rfl) (by intro _ _ _ h; exact h) (Or.inl ⟨by rfl, ?_⟩) (by assumption) ?_
    rotate_left
    · (intro w hSw; (try dsimp only at hSw); go_simp; all_goals with_reducible rfl)
    (try simp only [Act.put, List.setIfInBounds_toArray, List.set_cons_zero, List.set_cons_succ])
    refine wpAnyH_take (i := 3) (v := ?_) (by rw [List.getElem?_toArray]; rfl) (by kernel_rfl) (by kernel_rfl) (by kernel_rfl) (by intro _ _ _ h; exact h) (Or.inl ⟨by rfl, ?_⟩) (by assumption) ?_
    rotate_left
    · (intro w hSw; (try dsimp only at hSw); go_simp; all_goals with_reducible rfl)
    (try simp only [Act.put, List.setIfInBounds_toArray, List.set_cons_zero, List.set_cons_succ])
    refine wpAnyH_take (i := 4) (v := ?_) (by rw [List.getElem?_toArray]; rfl) (by kernel_rfl) (by kernel_rfl) (by kernel_rfl) (by intro _ _ _ h; exact h) (Or.inl ⟨by rfl, ?_⟩) (by assumption) ?_
    rotate_left
    · (intro w hSw; (try dsimp only at hSw); go_simp; all_goals with_reducible rfl)
    (try simp only [Act.put, List.setIfInBounds_toArray, List.set_cons_zero, List.set_cons_succ])
    refine wpAnyH_take (i := 5) (v := ?_) (by rw [List.getElem?_toArray]; rfl) (by kernel_rfl) (by kernel_rfl) (by kernel_rfl) (by intro _ _ _ h; exact h) (Or.inl ⟨by rfl, ?_⟩) (by assumption) ?_
    rotate_left
    · (intro w hSw; (try dsimp only at hSw); go_simp; all_goals with_reducible rfl)
    (try simp only [Act.put, List.setIfInBounds_toArray, List.set_cons_zero, List.set_cons_succ])
    refine wpAnyH_take (i := 6) (v := ?_) (by rw [List.getElem?_toArray]; rfl) (by kernel_rfl) (by kernel_rfl) (by kernel_rfl) (by intro _ _ _ h; exact h) (Or.inl ⟨by rfl, ?_⟩) (by assumption) ?_
    rotate_left
    · (intro w hSw; (try dsimp only at hSw); go_simp; all_goals with_reducible rfl)
    (try simp only [Act.put, List.setIfInBounds_toArray, List.set_cons_zero, List.set_cons_succ])
    refine wpAnyH_take (i := 7) (v := ?_) (by rw [List.getElem?_toArray]; rfl) (by kernel_rfl) (by kernel_rfl) (by kernel_rfl) (by intro _ _ _ h; exact h) (Or.inl ⟨by rfl, ?_⟩) (by assumption) ?_
    rotate_left
    · (intro w hSw; (try dsimp only at hSw); go_simp; all_goals with_reducible rfl)
    (try simp only [Act.put, List.setIfInBounds_toArray, List.set_cons_zero, List.set_cons_succ])
    refine wpAnyH_take (i := 8) (v := ?_) (by rw [List.getElem?_toArray]; rfl) (by kernel_rfl) (by kernel_rfl) (by kernel_rfl) (by intro _ _ _ h; exact h) (Or.inl ⟨by rfl, ?_⟩) (by assumption) ?_
    rotate_left
    · (intro w hSw; (try dsimp only at hSw); go_simp; all_goals with_reducible rfl)
    (try simp only [Act.put, List.setIfInBounds_toArray, List.set_cons_zero, List.set_cons_succ])
    refine wpAnyH_take (i := 9) (v := ?_) (by rw [List.getElem?_toArray]; rfl) (by kernel_rfl) (by kernel_rfl) (by kernel_rfl) (by intro _ _ _ h; exact h) (Or.inl ⟨by rfl, ?_⟩) (by assumption) ?_
    rotate_left
    · (intro w hSw; (try dsimp only at hSw); go_simp; all_goals with_reducible rfl)
    (try simp only [Act.put, List.setIfInBounds_toArray, List.set_cons_zero, List.set_cons_succ])
    refine wpAnyH_take (i := 10) (v := ?_) (by rw [List.getElem?_toArray]; rfl) (by kernel_rfl) (by kernel_rfl) (by kernel_rfl) (by intro _ _ _ h; exact h) (Or.inl ⟨by rfl, ?_⟩) (by assumption) ?_
    rotate_left
    · (intro w hSw; (try dsimp only at hSw); go_simp; all_goals with_reducible rfl)
    (try simp only [Act.put, List.setIfInBounds_toArray, List.set_cons_zero, List.set_cons_succ])
    refine wpAnyH_take (i := 11) (v := ?_) (by rw [List.getElem?_toArray]; rfl) (by kernel_rfl) (by kernel_rfl) (by kernel_rfl) (by intro _ _ _ h; exact h) (Or.inl ⟨by rfl, ?_⟩) (by assumption) ?_
    rotate_left
    · (intro w hSw; (try dsimp only at hSw); go_simp; all_goals with_reducible rfl)
    (try simp only [Act.put, List.setIfInBounds_toArray, List.set_cons_zero, List.set_cons_succ])
    refine wpAnyH_take (i := 12) (v := ?_) (by rw [List.getElem?_toArray]; rfl) (by kernel_rfl) (by kernel_rfl) (by kernel_rfl) (by intro _ _ _ h; exact h) (Or.inl ⟨by rfl, ?_⟩) (by assumption) ?_
    rotate_left
    · (intro w hSw; (try dsimp only at hSw); go_simp; all_goals with_reducible rfl)
    (try simp only [Act.put, List.setIfInBounds_toArray, List.set_cons_zero, List.set_cons_succ])
    refine wpAnyH_ready (rs := [13, 15]) (by kernel_rfl) (by simp) ?_
    refine (AllReadyH.cons (by rw [List.getElem?_toArray]; rfl) (fun K hK => ?_) (AllReadyH.cons (by rw [List.getElem?_toArray]; rfl) (fun K hK => ?_) AllReadyH.nil))
    · go_simp
      (have AA := Below.nw v0 (rowObjAsk m)); (have RW := World.ownsRow_made (base := w.heap.size + 1) (size := 4) (e := 43) v0 (madeCells #[.int .i64 0, .int .i64 0, .int .i64 0, .int .i64 0] (m * 4)) m (by omega) (by unfold maxLen; omega) (by rw [size_madeCells])); (replace RW : (v0.alloc (rowObjAsk m)).ownsRow (w.heap.size + 1) 43 4 (.slice (some ⟨v0.heap.size, 0, none⟩) 0 m) 0 [] := RW); (replace X := X.below AA); (replace MP := MP.below AA); (replace R := R.below AA); (have hlt0 : v0.heap.size < (v0.alloc (rowObjAsk m)).heap.size := by first | (simp; done) | (simp [rowObjAsk]; done)); (replace B := B.trans (AA.mono B.size)); clear AA x0 x1 x2 x3; (generalize v0.alloc (rowObjAsk m) = v1 at *); obtain ⟨x0, x1, x2, x3, -, -, -⟩ := id X
      refine hK.out _ _ ?_ (fun hHeld => ?_)
      · first | exact ⟨x1, x2, x3, HLEN.out _ MP⟩ | (refine ⟨?_, ?_, ?_, HLEN.out _ (((MP.setCell ?_ _).setCell ?_ _).setCell ?_ _)⟩ <;> first | (simp (maxDischargeDepth := 6) [go_sem, *]; done) | (simp; omega))
      clear hK K
      (try simp only [Act.put, List.setIfInBounds_toArray, List.set_cons_zero, List.set_cons_succ])
      refine wpAnyH_take (i := 14) (v := ?_) (by rw [List.getElem?_toArray]; rfl) (by kernel_rfl) (by kernel_rfl) (by kernel_rfl) (by intro _ _ _ h; exact h) (Or.inl ⟨by rfl, ?_⟩) (by assumption) ?_
      rotate_left
      · (intro w hSw; (try dsimp only at hSw); go_simp; all_goals with_reducible rfl)
      (try simp only [Act.put, List.setIfInBounds_toArray, List.set_cons_zero, List.set_cons_succ])
      refine wpAnyH_ready (rs := [15]) (by kernel_rfl) (by simp) ?_
      refine (AllReadyH.cons (by rw [List.getElem?_toArray]; rfl) (fun K hK => ?_) AllReadyH.nil)
      go_simp
      (have AA := Below.nw v1 (.cells #[.int .i64 0, .int .i64 0, .slice none 0 0] 39)); (replace RW := World.ownsRow.alloc RW (.cells #[.int .i64 0, .int .i64 0, .slice none 0 0] 39)); (have OB := Bx3.new v1 (.int .i64 0) (.int .i64 0) (.slice none 0 0) 39); (replace X := X.below AA); (replace MP := MP.below AA); (replace R := R.below AA); (have hlt1 : v1.heap.size < (v1.alloc (.cells #[.int .i64 0, .int .i64 0, .slice none 0 0] 39)).heap.size := by first | (simp; done) | (simp [rowObjAsk]; done)); (replace B := B.trans (AA.mono B.size)); clear AA x0 x1 x2 x3; (generalize v1.alloc (.cells #[.int .i64 0, .int .i64 0, .slice none 0 0] 39) = v2 at *); obtain ⟨x0, x1, x2, x3, -, -, -⟩ := id X; obtain ⟨k0, k1, k2, k3, k4, k5, k6⟩ := id OB
      refine hK.out _ _ ?_ (fun hHeld => ?_)
      · first | exact ⟨x1, x2, x3, HLEN.out _ MP⟩ | (refine ⟨?_, ?_, ?_, HLEN.out _ (((MP.setCell ?_ _).setCell ?_ _).setCell ?_ _)⟩ <;> first | (simp (maxDischargeDepth := 6) [go_sem, *]; done) | (simp; omega))
      clear hK K
      (try simp only [Act.put, List.setIfInBounds_toArray, List.set_cons_zero, List.set_cons_succ])
      refine wpAnyH_ready (rs := [16]) (by kernel_rfl) (by simp) ?_
      refine (AllReadyH.cons (by rw [List.getElem?_toArray]; rfl) (fun K hK => ?_) AllReadyH.nil)
      go_simp
      refine hK.out _ _ ?_ (fun hHeld => ?_)
      · first | exact ⟨x1, x2, x3, HLEN.out _ MP⟩ | (refine ⟨?_, ?_, ?_, HLEN.out _ (((MP.setCell ?_ _).setCell ?_ _).setCell ?_ _)⟩ <;> first | (simp (maxDischargeDepth := 6) [go_sem, *]; done) | (simp; omega))
      clear hK K
      (try simp only [Act.put, List.setIfInBounds_toArray, List.set_cons_zero, List.set_cons_succ])
      refine wpAnyH_done (by kernel_rfl) ?_ _
      go_wp2_with fail
      go_meet
      case rel =>
        have PB := put3_butK v2 (v1.heap.size) (.int .i64 ep) (.int .i64 us) (.slice (some ⟨v0.heap.size, 0, none⟩) 0 m)
        have l0 := R.1
        exact ⟨v1.heap.size, v0.heap.size, rfl, by omega, by omega, by omega, OB.set _ _ _, own_neK RW PB (fun g hg => by simp [Value.ownBlock] at hg; omega), X.but PB (by omega), MP.but PB (by omega), R.but PB (by omega), B.trans (PB.below (by omega) B.size)⟩
    · go_simp
      (have AA := Below.nw v0 (.cells #[.int .i64 0, .int .i64 0, .slice none 0 0] 39)); (have OB := Bx3.new v0 (.int .i64 0) (.int .i64 0) (.slice none 0 0) 39); (replace X := X.below AA); (replace MP := MP.below AA); (replace R := R.below AA); (have hlt0 : v0.heap.size < (v0.alloc (.cells #[.int .i64 0, .int .i64 0, .slice none 0 0] 39)).heap.size := by first | (simp; done) | (simp [rowObjAsk]; done)); (replace B := B.trans (AA.mono B.size)); clear AA x0 x1 x2 x3; (generalize v0.alloc (.cells #[.int .i64 0, .int .i64 0, .slice none 0 0] 39) = v1 at *); obtain ⟨x0, x1, x2, x3, -, -, -⟩ := id X
      refine hK.out _ _ ?_ (fun hHeld => ?_)
      · first | exact ⟨x1, x2, x3, HLEN.out _ MP⟩ | (refine ⟨?_, ?_, ?_, HLEN.out _ (((MP.setCell ?_ _).setCell ?_ _).setCell ?_ _)⟩ <;> first | (simp (maxDischargeDepth := 6) [go_sem, *]; done) | (simp; omega))
      clear hK K
      (try simp only [Act.put, List.setIfInBounds_toArray, List.set_cons_zero, List.set_cons_succ])
      refine wpAnyH_ready (rs := [13]) (by kernel_rfl) (by simp) ?_
      refine (AllReadyH.cons (by rw [List.getElem?_toArray]; rfl) (fun K hK => ?_) AllReadyH.nil)
      go_simp
      (have AA := Below.nw v1 (rowObjAsk m)); (replace OB := OB.below AA); (have RW := World.ownsRow_made (base := w.heap.size + 1) (size := 4) (e := 43) v1 (madeCells #[.int .i64 0, .int .i64 0, .int .i64 0, .int .i64 0] (m * 4)) m (by omega) (by unfold maxLen; omega) (by rw [size_madeCells])); (replace RW : (v1.alloc (rowObjAsk m)).ownsRow (w.heap.size + 1) 43 4 (.slice (some ⟨v1.heap.size, 0, none⟩) 0 m) 0 [] := RW); (replace X := X.below AA); (replace MP := MP.below AA); (replace R := R.below AA); (have hlt1 : v1.heap.size < (v1.alloc (rowObjAsk m)).heap.size := by first | (simp; done) | (simp [rowObjAsk]; done)); (replace B := B.trans (AA.mono B.size)); clear AA x0 x1 x2 x3; (generalize v1.alloc (rowObjAsk m) = v2 at *); obtain ⟨x0, x1, x2, x3, -, -, -⟩ := id X; obtain ⟨k0, k1, k2, k3, k4, k5, k6⟩ := id OB
      refine hK.out _ _ ?_ (fun hHeld => ?_)
      · first | exact ⟨x1, x2, x3, HLEN.out _ MP⟩ | (refine ⟨?_, ?_, ?_, HLEN.out _ (((MP.setCell ?_ _).setCell ?_ _).setCell ?_ _)⟩ <;> first | (simp (maxDischargeDepth := 6) [go_sem, *]; done) | (simp; omega))
      clear hK K
      (try simp only [Act.put, List.setIfInBounds_toArray, List.set_cons_zero, List.set_cons_succ])
      refine wpAnyH_take (i := 14) (v := ?_) (by rw [List.getElem?_toArray]; rfl) (by kernel_rfl) (by kernel_rfl) (by kernel_rfl) (by intro _ _ _ h; exact h) (Or.inl ⟨by rfl, ?_⟩) (by assumption) ?_
      rotate_left
      · (intro w hSw; (try dsimp only at hSw); go_simp; all_goals with_reducible rfl)
      (try simp only [Act.put, List.setIfInBounds_toArray, List.set_cons_zero, List.set_cons_succ])
      refine wpAnyH_ready (rs := [16]) (by kernel_rfl) (by simp) ?_
      refine (AllReadyH.cons (by rw [List.getElem?_toArray]; rfl) (fun K hK => ?_) AllReadyH.nil)
      go_simp
      refine hK.out _ _ ?_ (fun hHeld => ?_)
      · first | exact ⟨x1, x2, x3, HLEN.out _ MP⟩ | (refine ⟨?_, ?_, ?_, HLEN.out _ (((MP.setCell ?_ _).setCell ?_ _).setCell ?_ _)⟩ <;> first | (simp (maxDischargeDepth := 6) [go_sem, *]; done) | (simp; omega))
      clear hK K
      (try simp only [Act.put, List.setIfInBounds_toArray, List.set_cons_zero, List.set_cons_succ])
      refine wpAnyH_done (by kernel_rfl) ?_ _
      go_wp2_with fail
      go_meet
      case rel =>
        have PB := put3_butK v2 (v0.heap.size) (.int .i64 ep) (.int .i64 us) (.slice (some ⟨v1.heap.size, 0, none⟩) 0 m)
        have l0 := R.1
        exact ⟨v0.heap.size, v1.heap.size, rfl, by omega, by omega, by omega, OB.set _ _ _, own_neK RW PB (fun g hg => by simp [Value.ownBlock] at hg; omega), X.but PB (by omega), MP.but PB (by omega), R.but PB (by omega), B.trans (PB.below (by omega) B.size)⟩
  case rest =>
    obtain ⟨bo, br, rfl, hbo, hbr, hor, O', W', X', MP', R', B'⟩ := hcut
    clear X MP R B hmk x0 x1 x2 x3 HLEN
    go_wp2_with fail
    have CN := nonces_any bx bm n m _ _ F A wc X' MP' hn HFA.out
    have hbo1 := O'.1
    have hbr1 := (World.ownsRow.lt W' br rfl).2
    refine CN.mono ?_
    rintro e w2 ⟨vz, rfl, Z', hb⟩
    replace O' := O'.below hb
    replace W' := own_belK' W' hb
    replace X' := X'.below hb
    replace MP' := MP'.below hb
    replace R' := R'.below hb
    replace B' := B'.trans (hb.mono B'.size)
    clear hb CN
    replace Z' : w2.ownsRow wc.heap.size 3 1 vz m ((List.range (m * 1)).map fun j => Value.int .i64 (A j).1) := by rw [Nat.mul_one]; exact Z'
    obtain ⟨az, cz, rfl, hcz, hcz2, SZ'⟩ := ownF_src Z'
    have hgzo : ∀ q : Addr, az = some q → q.off = 0 := by
      rcases Z'.2 with ⟨e, _⟩ | ⟨g, cap, cur, e, _⟩
      · intro q hq; rw [hq] at e; simp at e
      · intro q hq; rw [hq] at e; simp at e; rw [e.1]
    have hgz : ∀ g, az = some ⟨g, 0, none⟩ → wc.heap.size ≤ g := fun g e => (World.ownsRow.lt Z' g (by rw [e]; rfl)).1
    go_wp2_with fail
    generalize wc.heap.size = jz at *
    clear Z'
    go_loopw [24] (fun s24 wr => ∃ k : Nat, k ≤ m ∧ s24 = .int .i64 (k : Int) ∧ Bx3 wr bo (.int .i64 ep) (.int .i64 us) (.slice (some ⟨br, 0, none⟩) k m) ∧ wr.ownsRow (w.heap.size + 1) 43 4 (.slice (some ⟨br, 0, none⟩) k m) k (krow A k) ∧ Bx3 wr bx (.int .i64 ep) (.int .i64 us) (.map (some bm)) ∧ MapK wr bm n F ∧ Bx3 wr w.heap.size (.int .i64 0) (.int .i64 0) (.slice none 0 0) ∧ SrcC wr az (m * 1) (fun j => Value.int .i64 (A j).1) ∧ Below w.heap.size w wr) (fun s24 _ => m - (vI s24).toNat)
    case atStart => exact ⟨0, Nat.zero_le _, rfl, O', W', X', MP', R', SZ', B'⟩
    case round =>
      clear O' W' X' MP' R' SZ' B'
      obtain ⟨k, hk, rfl, O, W, X, MP, R, SZ, B⟩ := hrel
      by_cases hlt : k < m
      · have hli : (k : Int) < (m : Int) := by omega
        rcases SZ with h0 | ⟨g, off, rfl, CZ⟩
        · omega
        obtain ⟨y0, y1, y2, y3, hA⟩ := tupAsk A k
        have cz0 : wr.cell? ⟨g, off + k, none⟩ = some (.int .i64 (A k).1) := CZ.2 k (by omega)
        rw [hA] at cz0
        have HW : Hid (krow A k ++ [.int .i64 y0, .int .i64 y1, .int .i64 y2, .int .i64 y3] = krow A (k + 1)) := krow_add hA
        have HL : Hid (∀ W : World, MapK W bm n F → (Instr.lookup 70 (.map (some bm)) (.int .i64 y0) false).run Try.prog W = .ok (.agg #[.int .i64 y0, .int .i64 y1, .int .i64 y2, .int .i64 y3]) W) := fun W h => by
          have q := h.look (HWF.out k hlt)
          rw [HFA.out.2.1 k hlt, hA] at q
          exact q
        have hg0 : off = 0 := by
          cases off with
          | zero => rfl
          | succ q => exact absurd (hgzo _ rfl) (by simp)
        subst hg0
        rw [Nat.zero_add] at cz0
        have hgj := hgz g rfl
        have hgl := CZ.1
        clear hA
        obtain ⟨x0, x1, x2, x3, -, -, -⟩ := id X
        obtain ⟨o0, o1, o2, o3, o4, o5, o6⟩ := id O
        have hvw : w.heap.size + 1 ≤ wr.heap.size := R.1
        go_upto_region 5 with fail
        refine wp_region_held_drew (S := (fun w' => w'.cell? ⟨bx, 2, none⟩ = some (.map (some bm)) ∧ (Instr.lookup 70 (.map (some bm)) (.int .i64 y0) false).run Try.prog w' = .ok (.agg #[.int .i64 y0, .int .i64 y1, .int .i64 y2, .int .i64 y3]) w')) (by kernel_rfl) ?_ (fun hHeld => ?_)
        · first | exact ⟨x3, HL.out _ MP⟩ | (refine ⟨?_, HL.out _ (MP.setCell ?_ _)⟩ <;> first | (simp (maxDischargeDepth := 6) [go_sem, *]; done) | (simp; omega))
        clear x0 x1 x2 x3 o0 o1 o2 o3 o4 o5 o6
        replace X := X.drew
        replace O := O.drew
        replace R := R.drew
        replace MP := MP.drew
        replace CZ := CZ.drew
        replace B := Below.drew B
        replace W := World.ownsRow.drew W
        generalize wr.drew = v at *
        (obtain ⟨x0, x1, x2, x3, -, -, -⟩ := id X); (obtain ⟨o0, o1, o2, o3, o4, o5, o6⟩ := id O)
        refine wpAnyH_take (i := 0) (v := ?_) (by rw [List.getElem?_toArray]; rfl) (by kernel_rfl) (by kernel_rfl) (by kernel_rfl) (by intro _ _ _ h; exact h) (Or.inl ⟨by rfl, ?_⟩) (by assumption) ?_
        rotate_left
        · (intro w hSw; (try dsimp only at hSw); go_simp; all_goals with_reducible rfl)
        (try simp only [Act.put, List.setIfInBounds_toArray, List.set_cons_zero, List.set_cons_succ])
        refine wpAnyH_take (i := 2) (v := ?_) (by rw [List.getElem?_toArray]; rfl) (by kernel_rfl) (by kernel_rfl) (by kernel_rfl) (by intro _ _ _ h; exact h) (Or.inl ⟨by rfl, ?_⟩) (by assumption) ?_
        rotate_left
        · (intro w hSw; (try dsimp only at hSw); go_simp; all_goals with_reducible rfl)
        (try simp only [Act.put, List.setIfInBounds_toArray, List.set_cons_zero, List.set_cons_succ])
        refine wpAnyH_take (i := 3) (v := ?_) (by rw [List.getElem?_toArray]; rfl) (by kernel_rfl) (by kernel_rfl) (by kernel_rfl) (by intro _ _ _ h; exact h) (Or.inl ⟨by rfl, ?_⟩) (by assumption) ?_
        rotate_left
        · (intro w hSw; (try dsimp only at hSw); go_simp; all_goals with_reducible rfl)
        (try simp only [Act.put, List.setIfInBounds_toArray, List.set_cons_zero, List.set_cons_succ])
        refine wpAnyH_take (i := 4) (v := ?_) (by rw [List.getElem?_toArray]; rfl) (by kernel_rfl) (by kernel_rfl) (by kernel_rfl) (by intro _ _ _ h; exact h) (Or.inl ⟨by rfl, ?_⟩) (by assumption) ?_
        rotate_left
        · (intro w hSw; (try dsimp only at hSw); go_simp; all_goals with_reducible rfl)
        (try simp only [Act.put, List.setIfInBounds_toArray, List.set_cons_zero, List.set_cons_succ])
        refine wpAnyH_take (i := 5) (v := ?_) (by rw [List.getElem?_toArray]; rfl) (by kernel_rfl) (by kernel_rfl) (by kernel_rfl) (by intro _ _ _ h; exact h) (Or.inl ⟨by rfl, ?_⟩) (by assumption) ?_
        rotate_left
        · (intro w hSw; (try dsimp only at hSw); go_simp; all_goals with_reducible rfl)
        (try simp only [Act.put, List.setIfInBounds_toArray, List.set_cons_zero, List.set_cons_succ])
        refine wpAnyH_take (i := 6) (v := ?_) (by rw [List.getElem?_toArray]; rfl) (by kernel_rfl) (by kernel_rfl) (by kernel_rfl) (by intro _ _ _ h; exact h) (Or.inl ⟨by rfl, ?_⟩) (by assumption) ?_
        rotate_left
        · (intro w hSw; (try dsimp only at hSw); go_simp; all_goals with_reducible rfl)
        (try simp only [Act.put, List.setIfInBounds_toArray, List.set_cons_zero, List.set_cons_succ])
        refine wpAnyH_take (i := 7) (v := ?_) (by rw [List.getElem?_toArray]; rfl) (by kernel_rfl) (by kernel_rfl) (by kernel_rfl) (by intro _ _ _ h; exact h) (Or.inl ⟨by rfl, ?_⟩) (by assumption) ?_
        rotate_left
        · (intro w hSw; (try dsimp only at hSw); go_simp; all_goals with_reducible rfl)
        (try simp only [Act.put, List.setIfInBounds_toArray, List.set_cons_zero, List.set_cons_succ])
        refine wpAnyH_ready (rs := [1, 8]) (by kernel_rfl) (by simp) ?_
        refine (AllReadyH.cons (by rw [List.getElem?_toArray]; rfl) (fun K hK => ?_) (AllReadyH.cons (by rw [List.getElem?_toArray]; rfl) (fun K hK => ?_) AllReadyH.nil))
        · go_simp
          refine hK.out _ _ ?_ (fun hHeld => ?_)
          · first | exact ⟨x3, HL.out _ MP⟩ | (refine ⟨?_, HL.out _ (MP.setCell ?_ _)⟩ <;> first | (simp (maxDischargeDepth := 6) [go_sem, *]; done) | (simp; omega))
          clear hK K
          (try simp only [Act.put, List.setIfInBounds_toArray, List.set_cons_zero, List.set_cons_succ])
          refine wpAnyH_ready (rs := [8]) (by kernel_rfl) (by simp) ?_
          refine (AllReadyH.cons (by rw [List.getElem?_toArray]; rfl) (fun K hK => ?_) AllReadyH.nil)
          go_simp
          (have AA := Below.nw v (.cells #[.int .i64 y0, .int .i64 y1, .int .i64 y2, .int .i64 y3] 43)); (have HFF : Hid (∀ j u, [Value.int .i64 y0, .int .i64 y1, .int .i64 y2, .int .i64 y3][j]? = some u → (v.alloc (.cells #[.int .i64 y0, .int .i64 y1, .int .i64 y2, .int .i64 y3] 43)).cell? ((⟨v.heap.size, 0, none⟩ : Addr).add j) = some u) := fun j u hu => four_at v y0 y1 y2 y3 43 j u hu); clear x0 x1 x2 x3 o0 o1 o2 o3 o4 o5 o6; (replace X := X.below AA); (replace O := O.below AA); (replace R := R.below AA); (replace MP := MP.below AA); (replace CZ := CZ.below AA CZ.1); (replace W := World.ownsRow.alloc W (.cells #[.int .i64 y0, .int .i64 y1, .int .i64 y2, .int .i64 y3] 43)); (replace B := B.trans (AA.mono B.size)); clear AA; (generalize v.alloc (.cells #[.int .i64 y0, .int .i64 y1, .int .i64 y2, .int .i64 y3] 43) = v2 at *); (generalize v.heap.size = jv at *); (obtain ⟨x0, x1, x2, x3, -, -, -⟩ := id X); (obtain ⟨o0, o1, o2, o3, o4, o5, o6⟩ := id O)
          refine hK.out _ _ ?_ (fun hHeld => ?_)
          · first | exact ⟨x3, HL.out _ MP⟩ | (refine ⟨?_, HL.out _ (MP.setCell ?_ _)⟩ <;> first | (simp (maxDischargeDepth := 6) [go_sem, *]; done) | (simp; omega))
          clear hK K
          (try simp only [Act.put, List.setIfInBounds_toArray, List.set_cons_zero, List.set_cons_succ])
          refine wpAnyH_ready (rs := [9]) (by kernel_rfl) (by simp) ?_
          refine (AllReadyH.cons (by rw [List.getElem?_toArray]; rfl) (fun K hK => ?_) AllReadyH.nil)
          rw [if_pos (by rfl)]; refine wp_append_own_spare _ _ _ 37 rfl (w.heap.size + 1) 43 i0 4 Try.underlying37 hi hz1 br k m (krow A k) rfl W ⟨jv, 0, none⟩ 1 1 [.int .i64 y0, .int .i64 y1, .int .i64 y2, .int .i64 y3] rfl rfl HFF.out (four_one _ _ _ _) (by omega) ?_; intro wn hown' hgrow; (have G := But.ofGrownK hgrow); clear x0 x1 x2 x3 o0 o1 o2 o3 o4 o5 o6; (replace X := X.but G (by omega)); (replace O := O.but G (by omega)); (replace R := R.but G (by omega)); (replace MP := MP.but G (by omega)); (replace CZ := CZ.but G (by omega)); (replace B := B.trans (G.below (by omega) B.size)); rw [HW.out] at hown'; clear hgrow HFF; (obtain ⟨x0, x1, x2, x3, -, -, -⟩ := id X); (obtain ⟨o0, o1, o2, o3, o4, o5, o6⟩ := id O)
          refine hK.out _ _ ?_ (fun hHeld => ?_)
          · first | exact ⟨x3, HL.out _ MP⟩ | (refine ⟨?_, HL.out _ (MP.setCell ?_ _)⟩ <;> first | (simp (maxDischargeDepth := 6) [go_sem, *]; done) | (simp; omega))
          clear hK K
          (try simp only [Act.put, List.setIfInBounds_toArray, List.set_cons_zero, List.set_cons_succ])
          refine wpAnyH_take (i := 10) (v := ?_) (by rw [List.getElem?_toArray]; rfl) (by kernel_rfl) (by kernel_rfl) (by kernel_rfl) (by intro _ _ _ h; exact h) (Or.inl ⟨by rfl, ?_⟩) (by assumption) ?_
          rotate_left
          · (intro w hSw; (try dsimp only at hSw); go_simp; all_goals with_reducible rfl)
          (try simp only [Act.put, List.setIfInBounds_toArray, List.set_cons_zero, List.set_cons_succ])
          refine wpAnyH_ready (rs := [11]) (by kernel_rfl) (by simp) ?_
          refine (AllReadyH.cons (by rw [List.getElem?_toArray]; rfl) (fun K hK => ?_) AllReadyH.nil)
          go_simp
          refine hK.out _ _ ?_ (fun hHeld => ?_)
          · first | exact ⟨x3, HL.out _ MP⟩ | (refine ⟨?_, HL.out _ (MP.setCell ?_ _)⟩ <;> first | (simp (maxDischargeDepth := 6) [go_sem, *]; done) | (simp; omega))
          clear hK K
          (try simp only [Act.put, List.setIfInBounds_toArray, List.set_cons_zero, List.set_cons_succ])
          refine wpAnyH_done (by kernel_rfl) ?_ _
          go_wp2_with fail
          have PB := But.oneK wn bo 2 (.slice (some ⟨br, 0, none⟩) (k + 1) m)
          go_roundw
          case rel => exact ⟨k + 1, by omega, by go_num, O.set2 _, own_neK hown' PB (fun g hg => by simp [Value.ownBlock] at hg; omega), X.but PB (by omega), MP.but PB (by omega), R.but PB (by omega), .inr ⟨g, 0, rfl, CZ.but PB (by omega)⟩, B.trans (PB.below (by omega) B.size)⟩
          case measure => simp [vI]; omega
        · go_simp
          (have AA := Below.nw v (.cells #[.int .i64 y0, .int .i64 y1, .int .i64 y2, .int .i64 y3] 43)); (have HFF : Hid (∀ j u, [Value.int .i64 y0, .int .i64 y1, .int .i64 y2, .int .i64 y3][j]? = some u → (v.alloc (.cells #[.int .i64 y0, .int .i64 y1, .int .i64 y2, .int .i64 y3] 43)).cell? ((⟨v.heap.size, 0, none⟩ : Addr).add j) = some u) := fun j u hu => four_at v y0 y1 y2 y3 43 j u hu); clear x0 x1 x2 x3 o0 o1 o2 o3 o4 o5 o6; (replace X := X.below AA); (replace O := O.below AA); (replace R := R.below AA); (replace MP := MP.below AA); (replace CZ := CZ.below AA CZ.1); (replace W := World.ownsRow.alloc W (.cells #[.int .i64 y0, .int .i64 y1, .int .i64 y2, .int .i64 y3] 43)); (replace B := B.trans (AA.mono B.size)); clear AA; (generalize v.alloc (.cells #[.int .i64 y0, .int .i64 y1, .int .i64 y2, .int .i64 y3] 43) = v2 at *); (generalize v.heap.size = jv at *); (obtain ⟨x0, x1, x2, x3, -, -, -⟩ := id X); (obtain ⟨o0, o1, o2, o3, o4, o5, o6⟩ := id O)
          refine hK.out _ _ ?_ (fun hHeld => ?_)
          · first | exact ⟨x3, HL.out _ MP⟩ | (refine ⟨?_, HL.out _ (MP.setCell ?_ _)⟩ <;> first | (simp (maxDischargeDepth := 6) [go_sem, *]; done) | (simp; omega))
          clear hK K
          (try simp only [Act.put, List.setIfInBounds_toArray, List.set_cons_zero, List.set_cons_succ])
          refine wpAnyH_ready (rs := [1]) (by kernel_rfl) (by simp) ?_
          refine (AllReadyH.cons (by rw [List.getElem?_toArray]; rfl) (fun K hK => ?_) AllReadyH.nil)
          go_simp
          refine hK.out _ _ ?_ (fun hHeld => ?_)
          · first | exact ⟨x3, HL.out _ MP⟩ | (refine ⟨?_, HL.out _ (MP.setCell ?_ _)⟩ <;> first | (simp (maxDischargeDepth := 6) [go_sem, *]; done) | (simp; omega))
          clear hK K
          (try simp only [Act.put, List.setIfInBounds_toArray, List.set_cons_zero, List.set_cons_succ])
          refine wpAnyH_ready (rs := [9]) (by kernel_rfl) (by simp) ?_
          refine (AllReadyH.cons (by rw [List.getElem?_toArray]; rfl) (fun K hK => ?_) AllReadyH.nil)
          rw [if_pos (by rfl)]; refine wp_append_own_spare _ _ _ 37 rfl (w.heap.size + 1) 43 i0 4 Try.underlying37 hi hz1 br k m (krow A k) rfl W ⟨jv, 0, none⟩ 1 1 [.int .i64 y0, .int .i64 y1, .int .i64 y2, .int .i64 y3] rfl rfl HFF.out (four_one _ _ _ _) (by omega) ?_; intro wn hown' hgrow; (have G := But.ofGrownK hgrow); clear x0 x1 x2 x3 o0 o1 o2 o3 o4 o5 o6; (replace X := X.but G (by omega)); (replace O := O.but G (by omega)); (replace R := R.but G (by omega)); (replace MP := MP.but G (by omega)); (replace CZ := CZ.but G (by omega)); (replace B := B.trans (G.below (by omega) B.size)); rw [HW.out] at hown'; clear hgrow HFF; (obtain ⟨x0, x1, x2, x3, -, -, -⟩ := id X); (obtain ⟨o0, o1, o2, o3, o4, o5, o6⟩ := id O)
          refine hK.out _ _ ?_ (fun hHeld => ?_)
          · first | exact ⟨x3, HL.out _ MP⟩ | (refine ⟨?_, HL.out _ (MP.setCell ?_ _)⟩ <;> first | (simp (maxDischargeDepth := 6) [go_sem, *]; done) | (simp; omega))
          clear hK K
          (try simp only [Act.put, List.setIfInBounds_toArray, List.set_cons_zero, List.set_cons_succ])
          refine wpAnyH_take (i := 10) (v := ?_) (by rw [List.getElem?_toArray]; rfl) (by kernel_rfl) (by kernel_rfl) (by kernel_rfl) (by intro _ _ _ h; exact h) (Or.inl ⟨by rfl, ?_⟩) (by assumption) ?_
          rotate_left
          · (intro w hSw; (try dsimp only at hSw); go_simp; all_goals with_reducible rfl)
          (try simp only [Act.put, List.setIfInBounds_toArray, List.set_cons_zero, List.set_cons_succ])
          refine wpAnyH_ready (rs := [11]) (by kernel_rfl) (by simp) ?_
          refine (AllReadyH.cons (by rw [List.getElem?_toArray]; rfl) (fun K hK => ?_) AllReadyH.nil)
          go_simp
          refine hK.out _ _ ?_ (fun hHeld => ?_)
          · first | exact ⟨x3, HL.out _ MP⟩ | (refine ⟨?_, HL.out _ (MP.setCell ?_ _)⟩ <;> first | (simp (maxDischargeDepth := 6) [go_sem, *]; done) | (simp; omega))
          clear hK K
          (try simp only [Act.put, List.setIfInBounds_toArray, List.set_cons_zero, List.set_cons_succ])
          refine wpAnyH_done (by kernel_rfl) ?_ _
          go_wp2_with fail
          have PB := But.oneK wn bo 2 (.slice (some ⟨br, 0, none⟩) (k + 1) m)
          go_roundw
          case rel => exact ⟨k + 1, by omega, by go_num, O.set2 _, own_neK hown' PB (fun g hg => by simp [Value.ownBlock] at hg; omega), X.but PB (by omega), MP.but PB (by omega), R.but PB (by omega), .inr ⟨g, 0, rfl, CZ.but PB (by omega)⟩, B.trans (PB.below (by omega) B.size)⟩
          case measure => simp [vI]; omega
      · have hkn : k = m := by omega
        subst hkn
        have hli : ¬ (k : Int) < (k : Int) := by omega
        have RQ := R.set (.int .i64 ep) (.int .i64 us) (.slice (some ⟨br, 0, none⟩) k k)
        have PB := put3_butK wr w.heap.size (.int .i64 ep) (.int .i64 us) (.slice (some ⟨br, 0, none⟩) k k)
        have WQ := ownK_le (base' := w.heap.size) (own_butK W PB (by omega)) (by omega)
        have BQ := B.trans (PB.below (B := w.heap.size) (by omega) B.size)
        obtain ⟨r0, r1, r2, r3, r4, r5, r6⟩ := R
        obtain ⟨o0, o1, o2, o3, -, -, -⟩ := O
        clear W MP X SZ PB
        go_wp2_with fail
        generalize (((wr.setCell ⟨w.heap.size, 0, none⟩ (.int .i64 ep)).setCell ⟨w.heap.size, 1, none⟩ (.int .i64 us)).setCell ⟨w.heap.size, 2, none⟩ (.slice (some ⟨br, 0, none⟩) k k)) = wq at *
        obtain ⟨q0, q1, q2, q3, q4, q5, q6⟩ := RQ
        exact bodyPost_ret (v := .agg #[.int .i64 ep, .int .i64 us, .slice (some ⟨br, 0, none⟩) k k]) (by simp (maxDischargeDepth := 6) [results, Try.results39, go_sem, q1, q2, q3]) rfl ⟨_, _, rfl, WQ, BQ⟩
end Go.Proofs.Ytgfhcilhibbooaa
namespace Go.Proofs.Ytgfhcilhibbooaa
open Go.RowKit
set_option linter.unusedVariables false
def SrcK (w : World) (a : Option Addr) (m : Nat) (F : Nat → Value) (L : Nat) : Prop := m = 0 ∨ ∃ b off, a = some ⟨b, off, none⟩ ∧ b < L ∧ Cs w b off m F
theorem SrcK.of {w : World} {a : Option Addr} {m : Nat} {F : Nat → Value} (h : SrcC w a m F) : SrcK w a m F w.heap.size := by
  rcases h with h | ⟨b, off, h1, h2⟩
  · exact .inl h
  · exact .inr ⟨b, off, h1, h2.1, h2⟩
theorem SrcK.src {w : World} {a : Option Addr} {m L : Nat} {F : Nat → Value} (h : SrcK w a m F L) : SrcC w a m F := by
  rcases h with h | ⟨b, off, h1, _, h2⟩
  · exact .inl h
  · exact .inr ⟨b, off, h1, h2⟩
theorem SrcK.below {w w' : World} {a : Option Addr} {m L : Nat} {F : Nat → Value} (h : SrcK w a m F L) (hb : Below w.heap.size w w') : SrcK w' a m F L := by
  rcases h with h | ⟨b, off, h1, h3, h2⟩
  · exact .inl h
  · exact .inr ⟨b, off, h1, h3, h2.below hb h2.1⟩
theorem Cs.kept {w w' : World} {o : Option Nat} {b off N : Nat} {F : Nat → Value} (h : Cs w b off N F) (hg : w.grownBy w' o) (hne : some b ≠ o) : Cs w' b off N F :=
  ⟨Nat.lt_of_lt_of_le h.1 hg.size, fun j hj => by
    have := hg.block b h.1 hne
    have q := h.2 j hj
    simp only [World.cell?] at q ⊢
    rw [this]; exact q⟩
theorem SrcK.kept {w w' : World} {o : Option Nat} {a : Option Addr} {m L : Nat} {F : Nat → Value} (h : SrcK w a m F L) (hg : w.grownBy w' o) (hne : ∀ b, b < L → some b ≠ o) : SrcK w' a m F L := by
  rcases h with h | ⟨b, off, h1, h3, h2⟩
  · exact .inl h
  · exact .inr ⟨b, off, h1, h3, h2.kept hg (hne b h3)⟩
theorem SrcC.keptK {w w' : World} {o : Option Nat} {a : Option Addr} {m : Nat} {F : Nat → Value} (h : SrcC w a m F) (hg : w.grownBy w' o) (hne : ∀ b off, a = some ⟨b, off, none⟩ → some b ≠ o) : SrcC w' a m F := by
  rcases h with h | ⟨b, off, h1, h2⟩
  · exact .inl h
  · exact .inr ⟨b, off, h1, h2.kept hg (hne b off h1)⟩
theorem cell_grown {w w' : World} {o : Option Nat} {b i : Nat} (hg : w.grownBy w' o) (hb : b < w.heap.size) (hne : some b ≠ o) : w'.cell? ⟨b, i, none⟩ = w.cell? ⟨b, i, none⟩ := by
  have := hg.block b hb hne
  simp only [World.cell?]
  rw [this]
theorem IB3.kept {w w' : World} {o : Option Nat} {j : Nat} {ep us : Int} {a : Option Addr} {n c : Nat} (h : IB3 w j ep us a n c) (hg : w.grownBy w' o) (hne : some j ≠ o) : IB3 w' j ep us a n c :=
  ⟨Nat.lt_of_lt_of_le h.1 hg.size, by rw [cell_grown hg h.1 hne]; exact h.2.1, by rw [cell_grown hg h.1 hne]; exact h.2.2.1, by rw [cell_grown hg h.1 hne]; exact h.2.2.2⟩
theorem Bk4.kept {w w' : World} {o : Option Nat} {j : Nat} {x0 x1 x2 x3 : Int} (h : Bk4 w j x0 x1 x2 x3) (hg : w.grownBy w' o) (hne : some j ≠ o) : Bk4 w' j x0 x1 x2 x3 :=
  ⟨Nat.lt_of_lt_of_le h.1 hg.size, by rw [cell_grown hg h.1 hne]; exact h.2.1, by rw [cell_grown hg h.1 hne]; exact h.2.2.1, by rw [cell_grown hg h.1 hne]; exact h.2.2.2.1, by rw [cell_grown hg h.1 hne]; exact h.2.2.2.2⟩
theorem Bk4.drew {w : World} {j : Nat} {x0 x1 x2 x3 : Int} (h : Bk4 w j x0 x1 x2 x3) : Bk4 w.drew j x0 x1 x2 x3 := h
theorem grown_bel {w w' : World} {o : Option Nat} {B : Nat} (hg : w.grownBy w' o) (hB : B ≤ w.heap.size) (hne : ∀ b, b < B → some b ≠ o) : Below B w w' := ⟨hg.os, hg.tape, hg.output, hg.size, fun k hk => hg.block k (by omega) (hne k hk)⟩
theorem bel_grown {w w' : World} (h : Below w.heap.size w w') : w.grownBy w' none := ⟨h.os, h.tape, h.output, h.size, fun k hk _ => h.block k hk⟩
theorem own_at {w : World} {base : Nat} {e : TypeId} {s n c : Nat} {a : Option Addr} {xs : List Value} (h : w.ownsRow base e s (.slice a n c) n xs) {b off : Nat} (ha : a = some ⟨b, off, none⟩) : (Value.slice a n c).ownBlock = some b := by
  rcases h.2 with ⟨he, _⟩ | ⟨g, cap, cur, he, _⟩
  · simp at he; rw [he.1] at ha; cases ha
  · simp at he; rw [he.1] at ha; simp at ha; rw [he.1, ← ha.1]; rfl
end Go.Proofs.Ytgfhcilhibbooaa
namespace Go.Proofs.Ytgfhcilhibbooaa
open Go.RowKit
set_option linter.unusedVariables false
def Bf4 (w : World) (j : Nat) (x0 x1 x2 x3 : Int) : Prop := Bk4 w j x0 x1 x2 x3 ∧ w.frozen? ⟨j, 0, none⟩ = false ∧ w.frozen? ⟨j, 1, none⟩ = false ∧ w.frozen? ⟨j, 2, none⟩ = false ∧ w.frozen? ⟨j, 3, none⟩ = false
theorem Bf4.below {w w' : World} {j : Nat} {x0 x1 x2 x3 : Int} (h : Bf4 w j x0 x1 x2 x3) (hb : Below w.heap.size w w') : Bf4 w' j x0 x1 x2 x3 :=
  ⟨h.1.below hb, by rw [hb.frozen (p := ⟨j, 0, none⟩) h.1.1]; exact h.2.1, by rw [hb.frozen (p := ⟨j, 1, none⟩) h.1.1]; exact h.2.2.1, by rw [hb.frozen (p := ⟨j, 2, none⟩) h.1.1]; exact h.2.2.2.1, by rw [hb.frozen (p := ⟨j, 3, none⟩) h.1.1]; exact h.2.2.2.2⟩
theorem Bf4.but {w w' : World} {j q : Nat} {x0 x1 x2 x3 : Int} (h : Bf4 w j x0 x1 x2 x3) (hb : But q w w') (hq : j ≠ q) : Bf4 w' j x0 x1 x2 x3 :=
  ⟨h.1.but hb hq, by rw [hb.frozen h.1.1 hq]; exact h.2.1, by rw [hb.frozen h.1.1 hq]; exact h.2.2.1, by rw [hb.frozen h.1.1 hq]; exact h.2.2.2.1, by rw [hb.frozen h.1.1 hq]; exact h.2.2.2.2⟩
theorem Bf4.drew {w : World} {j : Nat} {x0 x1 x2 x3 : Int} (h : Bf4 w j x0 x1 x2 x3) : Bf4 w.drew j x0 x1 x2 x3 := h
theorem Bf4.new (w : World) (x0 x1 x2 x3 : Int) (T : TypeId) : Bf4 (w.alloc (.cells #[.int .i64 x0, .int .i64 x1, .int .i64 x2, .int .i64 x3] T)) w.heap.size x0 x1 x2 x3 := ⟨Bk4.new w x0 x1 x2 x3 T, by simp, by simp, by simp, by simp⟩
def put4 (w : World) (j : Nat) (x0 x1 x2 x3 : Int) : World := (((w.setCell ⟨j, 0, none⟩ (.int .i64 x0)).setCell ⟨j, 1, none⟩ (.int .i64 x1)).setCell ⟨j, 2, none⟩ (.int .i64 x2)).setCell ⟨j, 3, none⟩ (.int .i64 x3)
theorem put4_but (w : World) (j : Nat) (x0 x1 x2 x3 : Int) : But j w (put4 w j x0 x1 x2 x3) := ((((But.refl j w).setCell _ _).setCell _ _).setCell _ _).setCell _ _
theorem Bf4.set {w : World} {j : Nat} {x0 x1 x2 x3 : Int} (h : Bf4 w j x0 x1 x2 x3) (y0 y1 y2 y3 : Int) : Bf4 (put4 w j y0 y1 y2 y3) j y0 y1 y2 y3 := by
  obtain ⟨⟨h0, c0, c1, c2, c3⟩, f0, f1, f2, f3⟩ := h
  have n0 : ∀ (W : World) (i k : Nat) (u : Value), i ≠ k → (W.setCell ⟨j, i, none⟩ u).cell? ⟨j, k, none⟩ = W.cell? ⟨j, k, none⟩ := fun W i k u hik => World.cell?_setCell_other _ _ _ _ (by intro e; exact hik (congrArg Addr.off e))
  refine ⟨⟨by simpa [put4] using h0, ?_, ?_, ?_, ?_⟩, by simpa [put4] using f0, by simpa [put4] using f1, by simpa [put4] using f2, by simpa [put4] using f3⟩
  · unfold put4; rw [n0 _ _ _ _ (by decide), n0 _ _ _ _ (by decide), n0 _ _ _ _ (by decide)]; exact World.cell?_setCell_same _ _ _ c0
  · unfold put4; rw [n0 _ _ _ _ (by decide), n0 _ _ _ _ (by decide)]; exact World.cell?_setCell_same _ _ _ (by rw [n0 _ _ _ _ (by decide)]; exact c1)
  · unfold put4; rw [n0 _ _ _ _ (by decide)]; exact World.cell?_setCell_same _ _ _ (by rw [n0 _ _ _ _ (by decide), n0 _ _ _ _ (by decide)]; exact c2)
  · unfold put4; exact World.cell?_setCell_same _ _ _ (by rw [n0 _ _ _ _ (by decide), n0 _ _ _ _ (by decide), n0 _ _ _ _ (by decide)]; exact c3)
theorem nn_yes {ep us : Int} (h1 : 0 ≤ ep ∧ ep ≤ 100000) (h2 : 0 ≤ us ∧ us < 1000) : nnB ep us = true ∧ nnI ep us = ep * 1000 + us := by
  have h : nnB ep us = true := by rw [nnB, epB, kB]; simp; omega
  exact ⟨h, by rw [nnI, h]; rfl⟩
theorem nn_no {ep : Int} : nnB ep 1000 = false ∧ nnI ep 1000 = 0 := by
  have h : nnB ep 1000 = false := by rw [nnB, kB]; simp
  exact ⟨h, by rw [nnI, h]; rfl⟩
end Go.Proofs.Ytgfhcilhibbooaa
namespace Go.Proofs.Ytgfhcilhibbooaa
open Go.RowKit
set_option linter.unusedVariables false
def addG (M : Nat → KT) (n : Nat) (a : KT) (j : Nat) : KT := if j = n then a else M j
theorem FA.add {F : Int → Option KT} {A : Nat → KT} {m : Nat} (h : FA F A m) {a : KT} {nn : Int} (ha : a.1 = nn) (hlt : ∀ j, j < m → (A j).1 < nn) : FA (fun q => if q = nn then some a else F q) (addG A m a) (m + 1) := by
  refine ⟨fun i j hij hj => ?_, fun j hj => ?_, fun x hx => ?_⟩
  · unfold addG
    by_cases e : j = m
    · rw [if_pos e, if_neg (by omega), ha]; exact hlt i (by omega)
    · rw [if_neg e, if_neg (by omega)]; exact h.1 i j hij (by omega)
  · show (if (addG A m a j).1 = nn then some a else F (addG A m a j).1) = some (addG A m a j)
    by_cases e : j = m
    · have e2 : addG A m a j = a := if_pos e
      rw [e2]; exact if_pos ha
    · have e2 : addG A m a j = A j := if_neg e
      rw [e2]; exact (if_neg (by have := hlt j (by omega); omega)).trans (h.2.1 j (by omega))
  · have e1 : x ≠ nn := fun e => hx m (by omega) (by unfold addG; rw [if_pos rfl, ha, e])
    show (if x = nn then some a else F x) = none
    rw [if_neg e1]
    exact h.2.2 x fun j hj => by
      have := hx j (by omega)
      unfold addG at this
      rw [if_neg (by omega)] at this
      exact this
theorem el_lt {ep us : Int} {M : Nat → KT} {n j : Nat} (h : tOk ep us M n = true) (hj : j < n) : (M j).1 < ep * 1000 + us := by
  have h1 := tOk_el h hj
  simp only [elB, Bool.and_eq_true, decide_eq_true_eq] at h1
  obtain ⟨⟨⟨⟨h2, h3⟩, h4⟩, h5⟩, h6⟩ := h1
  have := np_join h2
  omega
end Go.Proofs.Ytgfhcilhibbooaa
namespace Go.Proofs.Ytgfhcilhibbooaa
open Go.RowKit
set_option linter.unusedVariables false
theorem froz_grown {w w' : World} {o : Option Nat} {b i : Nat} (hg : w.grownBy w' o) (hb : b < w.heap.size) (hne : some b ≠ o) : w'.frozen? ⟨b, i, none⟩ = w.frozen? ⟨b, i, none⟩ := by
  have := hg.block b hb hne
  simp only [World.frozen?]
  rw [this]
theorem Bx3.kept3 {w w' : World} {o : Option Nat} {j : Nat} {u0 u1 u2 : Value} (h : Bx3 w j u0 u1 u2) (hg : w.grownBy w' o) (hne : some j ≠ o) : Bx3 w' j u0 u1 u2 := by
  obtain ⟨h0, h1, h2, h3, h4, h5, h6⟩ := h
  exact ⟨Nat.lt_of_lt_of_le h0 hg.size, by rw [cell_grown hg h0 hne]; exact h1, by rw [cell_grown hg h0 hne]; exact h2, by rw [cell_grown hg h0 hne]; exact h3, by rw [froz_grown hg h0 hne]; exact h4, by rw [froz_grown hg h0 hne]; exact h5, by rw [froz_grown hg h0 hne]; exact h6⟩
theorem Bf4.kept {w w' : World} {o : Option Nat} {j : Nat} {x0 x1 x2 x3 : Int} (h : Bf4 w j x0 x1 x2 x3) (hg : w.grownBy w' o) (hne : some j ≠ o) : Bf4 w' j x0 x1 x2 x3 :=
  ⟨h.1.kept hg hne, by rw [froz_grown hg h.1.1 hne]; exact h.2.1, by rw [froz_grown hg h.1.1 hne]; exact h.2.2.1, by rw [froz_grown hg h.1.1 hne]; exact h.2.2.2.1, by rw [froz_grown hg h.1.1 hne]; exact h.2.2.2.2⟩
theorem own_cells3 {w : World} {base j n c : Nat} {a : Option Addr} {G : Nat → KT} {e u : Int} {u2 : Value} (h : w.ownsRow base 43 4 (.slice a (n + 1) c) (n + 1) (krow G (n + 1))) (hb : Bx3 w j (.int .i64 e) (.int .i64 u) u2) (h2 : ∀ k q, u2 ≠ .int k q) : ∀ g, (Value.slice a (n + 1) c).ownBlock = some g → g ≠ j := by
  intro g hg ej
  subst ej
  obtain ⟨a2, c2, e2, _, _, S⟩ := ownF_src h
  injection e2 with e2 e3 e4
  subst e2 e4
  rcases S with S | ⟨b, off, ha, hc⟩
  · omega
  · have := own_at h ha
    rw [hg] at this
    injection this with this
    subst this
    have hoff : off = 0 := by
      rcases h.2 with ⟨he, _⟩ | ⟨g', cap, cur, he, _⟩
      · simp at he
      · simp at he; rw [he.1] at ha; simp at ha; exact ha.2.symm
    subst hoff
    have q := hc.2 2 (by omega)
    rw [Nat.zero_add, hb.2.2.2.1] at q
    obtain ⟨x0, x1, x2, x3, hG⟩ := tupAsk G 0
    have v := (MFAsk_vals hG).2.2.1
    simp only [Nat.zero_mul, Nat.zero_add] at v
    rw [v] at q
    injection q with q
    exact h2 _ _ q
/- What an append may read: the cells from an address on. -/
def FromAd (w : World) (ad : Addr) (M : Nat → KT) (n : Nat) : Prop := ∀ j u, (krow M n)[j]? = some u → w.cell? (ad.add j) = some u
def Froms (w : World) (ad : Addr) (M : Nat → KT) (n : Nat) : Prop := n = 0 ∨ (ad.spot = none ∧ Cs w ad.block ad.off (n * 4) (MFAsk M))
theorem Froms.at {w : World} {ad : Addr} {M : Nat → KT} {n : Nat} (h : Froms w ad M n) : FromAd w ad M n := by
  intro j u hu
  obtain ⟨hj, rfl⟩ := krow_get hu
  rcases h with h | ⟨hs, h⟩
  · omega
  · have q := h.2 j hj
    obtain ⟨b, off, s⟩ := ad
    simp only at hs q
    subst hs
    unfold Addr.add
    split
    · next e => subst e; exact q
    · exact q
theorem Froms.below {w w' : World} {ad : Addr} {M : Nat → KT} {n : Nat} (h : Froms w ad M n) (hb : Below w.heap.size w w') : Froms w' ad M n := by
  rcases h with h | ⟨hs, h⟩
  · exact .inl h
  · exact .inr ⟨hs, h.below hb h.1⟩
theorem Froms.src {w : World} {ad : Addr} {M : Nat → KT} {n : Nat} (h : Froms w ad M n) : SrcC w (some ad) (n * 4) (MFAsk M) := by
  rcases h with h | ⟨hs, h⟩
  · exact .inl (by omega)
  · obtain ⟨b, off, s⟩ := ad
    simp only at hs h
    subst hs
    exact .inr ⟨b, off, rfl, h⟩
theorem Froms.of {w : World} {b n : Nat} {M : Nat → KT} (h : Cs w b 0 (n * 4) (MFAsk M)) : Froms w ⟨b, 0, none⟩ M n := .inr ⟨rfl, h⟩
set_option maxRecDepth 100000 in
set_option maxHeartbeats 4000000 in
theorem l7Copy_any (ep us : Int) (ad : Addr) (n c : Nat) (M : Nat → KT) (w : World) (hn : n ≤ 1000) (hf : Froms w ad M n) :
    Calls Try.prog 37 #[.agg #[.int .i64 ep, .int .i64 us, .slice (some ad) n c]] w fun e w' => ∃ a' c', e = .returned (.agg #[.int .i64 ep, .int .i64 us, .slice a' n c']) ∧ w'.ownsRow w.heap.size 43 4 (.slice a' n c') n (krow M n) ∧ Below w.heap.size w w' := by
  obtain ⟨i0, hi, hz0, hz1, hz2⟩ := infoK_parts
  have N := (IB3.new w ep us (some ad) n c 39).below (Below.nw _ (.cells #[.int .i64 0, .int .i64 0, .slice none 0 0] 39))
  have R := Bx3.new (w.alloc (.cells #[.int .i64 ep, .int .i64 us, .slice (some ad) n c] 39)) (.int .i64 0) (.int .i64 0) (.slice none 0 0) 39
  have A1 := Below.nw w (.cells #[.int .i64 ep, .int .i64 us, .slice (some ad) n c] 39)
  have B := A1.alloc A1.size (.cells #[.int .i64 0, .int .i64 0, .slice none 0 0] 39)
  have CS := (hf.below A1).below (Below.nw _ (.cells #[.int .i64 0, .int .i64 0, .slice none 0 0] 39))
  simp only [World.size_alloc] at R
  clear hf A1
  go_enter Try.func37, Try.ntmps37
  go_wp2_with fail
  generalize (w.alloc (.cells #[.int .i64 ep, .int .i64 us, .slice (some ad) n c] 39)).alloc (.cells #[.int .i64 0, .int .i64 0, .slice none 0 0] 39) = v at *
  obtain ⟨n0, n1, n2, n3⟩ := id N
  obtain ⟨r0, r1, r2, r3, r4, r5, r6⟩ := id R
  refine wp_region_held_drew (S := (fun w' => w'.cell? ⟨w.heap.size, 0, none⟩ = some (.int .i64 ep) ∧ w'.cell? ⟨w.heap.size, 1, none⟩ = some (.int .i64 us) ∧ w'.cell? ⟨w.heap.size, 2, none⟩ = some (.slice (some ad) n c))) (by kernel_rfl) ?_ (fun hHeld => ?_)
  · first | exact ⟨n1, n2, n3⟩ | (simp (maxDischargeDepth := 6) [go_sem, *]; done)
  clear n0 n1 n2 n3 r0 r1 r2 r3 r4 r5 r6
  replace N := N.drew
  replace R := R.drew
  replace B := Below.drew B
  replace CS : Froms v.drew ad M n := CS
  generalize v.drew = v at *
  (obtain ⟨n0, n1, n2, n3⟩ := id N); (obtain ⟨r0, r1, r2, r3, r4, r5, r6⟩ := id R)
  refine wpAnyH_take (i := 0) (v := ?_) (by rw [List.getElem?_toArray]; rfl) (by kernel_rfl) (by kernel_rfl) (by kernel_rfl) (by intro _ _ _ h; exact h) (Or.inl ⟨by rfl, ?_⟩) (by assumption) ?_
  rotate_left
  · (intro w hSw; (try dsimp only at hSw); go_simp; all_goals with_reducible rfl)
  (try simp only [Act.put, List.setIfInBounds_toArray, List.set_cons_zero, List.set_cons_succ])
  refine wpAnyH_take (i := 1) (v := ?_) (by rw [List.getElem?_toArray]; rfl) (by kernel_rfl) (by kernel_rfl) (by kernel_rfl) (by intro _ _ _ h; exact h) (Or.inl ⟨by rfl, ?_⟩) (by assumption) ?_
  rotate_left
  · (intro w hSw; (try dsimp only at hSw); go_simp; all_goals with_reducible rfl)
  (try simp only [Act.put, List.setIfInBounds_toArray, List.set_cons_zero, List.set_cons_succ])
  refine wpAnyH_take (i := 2) (v := ?_) (by rw [List.getElem?_toArray]; rfl) (by kernel_rfl) (by kernel_rfl) (by kernel_rfl) (by intro _ _ _ h; exact h) (Or.inl ⟨by rfl, ?_⟩) (by assumption) ?_
  rotate_left
  · (intro w hSw; (try dsimp only at hSw); go_simp; all_goals with_reducible rfl)
  (try simp only [Act.put, List.setIfInBounds_toArray, List.set_cons_zero, List.set_cons_succ])
  refine wpAnyH_take (i := 3) (v := ?_) (by rw [List.getElem?_toArray]; rfl) (by kernel_rfl) (by kernel_rfl) (by kernel_rfl) (by intro _ _ _ h; exact h) (Or.inl ⟨by rfl, ?_⟩) (by assumption) ?_
  rotate_left
  · (intro w hSw; (try dsimp only at hSw); go_simp; all_goals with_reducible rfl)
  (try simp only [Act.put, List.setIfInBounds_toArray, List.set_cons_zero, List.set_cons_succ])
  refine wpAnyH_take (i := 5) (v := ?_) (by rw [List.getElem?_toArray]; rfl) (by kernel_rfl) (by kernel_rfl) (by kernel_rfl) (by intro _ _ _ h; exact h) (Or.inl ⟨by rfl, ?_⟩) (by assumption) ?_
  rotate_left
  · (intro w hSw; (try dsimp only at hSw); go_simp; all_goals with_reducible rfl)
  (try simp only [Act.put, List.setIfInBounds_toArray, List.set_cons_zero, List.set_cons_succ])
  refine wpAnyH_take (i := 6) (v := ?_) (by rw [List.getElem?_toArray]; rfl) (by kernel_rfl) (by kernel_rfl) (by kernel_rfl) (by intro _ _ _ h; exact h) (Or.inl ⟨by rfl, ?_⟩) (by assumption) ?_
  rotate_left
  · (intro w hSw; (try dsimp only at hSw); go_simp; all_goals with_reducible rfl)
  (try simp only [Act.put, List.setIfInBounds_toArray, List.set_cons_zero, List.set_cons_succ])
  refine wpAnyH_ready (rs := [4]) (by kernel_rfl) (by simp) ?_
  refine (AllReadyH.cons (by rw [List.getElem?_toArray]; rfl) (fun K hK => ?_) AllReadyH.nil)
  go_simp
  (have hvz : w.heap.size + 2 ≤ v.heap.size := r0); (have O := World.ownsRow_made (base := w.heap.size + 2) (size := 4) (e := 43) v #[] 0 hvz (by simp [maxLen]) (by simp)); (have A := Below.nw v (.cells #[] 43)); clear n0 n1 n2 n3 r0 r1 r2 r3 r4 r5 r6; (replace N := N.below A); (replace R := R.below A); (replace CS := CS.below A); (replace B := B.trans (A.mono B.size)); (have hsz : w.heap.size + 2 ≤ (v.alloc (.cells #[] 43)).heap.size := Nat.le_trans hvz A.size); clear A; (generalize v.alloc (.cells #[] 43) = v2 at *); (obtain ⟨n0, n1, n2, n3⟩ := id N); (obtain ⟨r0, r1, r2, r3, r4, r5, r6⟩ := id R)
  refine hK.out _ _ ?_ (fun hHeld => ?_)
  · first | exact ⟨n1, n2, n3⟩ | (simp (maxDischargeDepth := 6) [go_sem, *]; done)
  clear hK K
  (try simp only [Act.put, List.setIfInBounds_toArray, List.set_cons_zero, List.set_cons_succ])
  refine wpAnyH_ready (rs := [7]) (by kernel_rfl) (by simp) ?_
  refine (AllReadyH.cons (by rw [List.getElem?_toArray]; rfl) (fun K hK => ?_) AllReadyH.nil)
  rw [if_pos (by rfl)]; (have HN : Hid (FromAd v2 ad M n) := CS.at); refine wp_append_own _ _ _ 37 rfl (w.heap.size + 2) 43 i0 (.agg #[.int .i64 0, .int .i64 0, .int .i64 0, .int .i64 0]) 4 32 Try.underlying37 hi hz0 hz1 hz2 rfl (by decide) _ _ _ rfl O ad n c (krow M n) rfl (krow_len M n) HN.out (krow_one M n) (by unfold maxLen; omega) (by omega) hsz ?_; intro v' wn hown' hgrow _; (have Bg := But.ofGrownK hgrow); clear n0 n1 n2 n3 r0 r1 r2 r3 r4 r5 r6; (replace N := N.but Bg (Nat.ne_of_lt (Nat.lt_of_lt_of_le (by omega) hvz))); (replace R := R.but Bg (Nat.ne_of_lt (Nat.lt_of_lt_of_le (by omega) hvz))); (replace B := B.trans (Bg.below (Nat.le_trans (by omega) hvz) B.size)); rw [Nat.zero_add, List.nil_append] at hown'; (obtain ⟨a', c', rfl, _, _, _⟩ := ownF_src hown'); clear hgrow HN Bg; (obtain ⟨n0, n1, n2, n3⟩ := id N); (obtain ⟨r0, r1, r2, r3, r4, r5, r6⟩ := id R)
  refine hK.out _ _ ?_ (fun hHeld => ?_)
  · first | exact ⟨n1, n2, n3⟩ | (simp (maxDischargeDepth := 6) [go_sem, *]; done)
  clear hK K
  (try simp only [Act.put, List.setIfInBounds_toArray, List.set_cons_zero, List.set_cons_succ])
  refine wpAnyH_take (i := 8) (v := ?_) (by rw [List.getElem?_toArray]; rfl) (by kernel_rfl) (by kernel_rfl) (by kernel_rfl) (by intro _ _ _ h; exact h) (Or.inl ⟨by rfl, ?_⟩) (by assumption) ?_
  rotate_left
  · (intro w hSw; (try dsimp only at hSw); go_simp; all_goals with_reducible rfl)
  (try simp only [Act.put, List.setIfInBounds_toArray, List.set_cons_zero, List.set_cons_succ])
  refine wpAnyH_ready (rs := [9]) (by kernel_rfl) (by simp) ?_
  refine (AllReadyH.cons (by rw [List.getElem?_toArray]; rfl) (fun K hK => ?_) AllReadyH.nil)
  go_simp
  refine hK.out _ _ ?_ (fun hHeld => ?_)
  · first | exact ⟨n1, n2, n3⟩ | (simp (maxDischargeDepth := 6) [go_sem, *]; done)
  clear hK K
  (try simp only [Act.put, List.setIfInBounds_toArray, List.set_cons_zero, List.set_cons_succ])
  refine wpAnyH_done (by kernel_rfl) ?_ _
  go_wp2_with fail
  have PB := put3_butK wn (w.heap.size + 1) (.int .i64 ep) (.int .i64 us) (.slice a' n c')
  exact bodyPost_ret (v := .agg #[.int .i64 ep, .int .i64 us, .slice a' n c']) (by simp (maxDischargeDepth := 6) [results, Try.results37, go_sem, *]) rfl ⟨a', c', rfl, ownK_le (own_butK hown' PB (by omega)) (by omega), B.trans (PB.below (by omega) B.size)⟩
set_option maxRecDepth 100000 in
set_option maxHeartbeats 8000000 in
theorem l7Put_any (ep us x y z nn : Int) (ad : Addr) (n c : Nat) (M : Nat → KT) (w : World) (hn : n ≤ 900) (hf : Froms w ad M n) (hep : 0 ≤ ep ∧ ep ≤ 100000) (hus : 0 ≤ us ∧ us ≤ 1000) (hnn : ep * 1000 + us = nn) :
    Calls Try.prog 60 #[.agg #[.int .i64 ep, .int .i64 us, .slice (some ad) n c], .int .i64 x, .int .i64 y, .int .i64 z] w fun e w' => ∃ a' c', e = .returned (.tuple #[.agg #[.int .i64 ep, .int .i64 (us + 1), .slice a' (n + 1) c'], .agg #[.int .i64 nn, .int .i64 x, .int .i64 y, .int .i64 z]]) ∧ w'.ownsRow w.heap.size 43 4 (.slice a' (n + 1) c') (n + 1) (krow (addG M n (kT nn x y z)) (n + 1)) ∧ Below w.heap.size w w' := by
  obtain ⟨i0, hi, hz0, hz1, hz2⟩ := infoK_parts
  have w1 : IntKind.i64.wrap (ep * 1000) = ep * 1000 := Go.IntWalk.i64_in _ ⟨by omega, by omega⟩
  have w2 : IntKind.i64.wrap (ep * 1000 + us) = nn := by rw [hnn]; exact Go.IntWalk.i64_in _ ⟨by omega, by omega⟩
  have w3 : IntKind.i64.wrap (us + 1) = us + 1 := Go.IntWalk.i64_in _ ⟨by omega, by omega⟩
  have HW : Hid (krow M n ++ [.int .i64 nn, .int .i64 x, .int .i64 y, .int .i64 z] = krow (addG M n (kT nn x y z)) (n + 1)) := by
    have e : krow M n = krow (addG M n (kT nn x y z)) n := krow_congr fun j hj => (if_neg (by omega)).symm
    rw [Hid, e]
    exact krow_add (if_pos rfl)
  have N := ((IB3.new w ep us (some ad) n c 39).below (Below.nw _ (.cells #[.int .i64 0, .int .i64 0, .slice none 0 0] 39))).below (Below.nw _ (.cells #[.int .i64 0, .int .i64 0, .int .i64 0, .int .i64 0] 43))
  have R := (Bx3.new (w.alloc (.cells #[.int .i64 ep, .int .i64 us, .slice (some ad) n c] 39)) (.int .i64 0) (.int .i64 0) (.slice none 0 0) 39).below (Below.nw _ (.cells #[.int .i64 0, .int .i64 0, .int .i64 0, .int .i64 0] 43))
  have R2 := Bf4.new ((w.alloc (.cells #[.int .i64 ep, .int .i64 us, .slice (some ad) n c] 39)).alloc (.cells #[.int .i64 0, .int .i64 0, .slice none 0 0] 39)) 0 0 0 0 43
  have A1 := Below.nw w (.cells #[.int .i64 ep, .int .i64 us, .slice (some ad) n c] 39)
  have A2 := A1.alloc A1.size (.cells #[.int .i64 0, .int .i64 0, .slice none 0 0] 39)
  have B := A2.alloc A2.size (.cells #[.int .i64 0, .int .i64 0, .int .i64 0, .int .i64 0] 43)
  have CS := ((hf.below A1).below (Below.nw _ (.cells #[.int .i64 0, .int .i64 0, .slice none 0 0] 39))).below (Below.nw _ (.cells #[.int .i64 0, .int .i64 0, .int .i64 0, .int .i64 0] 43))
  simp only [World.size_alloc] at R R2
  clear hf A1 A2 hep hus hnn
  go_enter Try.func60, Try.ntmps60
  go_upto_region 1 with fail
  generalize ((w.alloc (.cells #[.int .i64 ep, .int .i64 us, .slice (some ad) n c] 39)).alloc (.cells #[.int .i64 0, .int .i64 0, .slice none 0 0] 39)).alloc (.cells #[.int .i64 0, .int .i64 0, .int .i64 0, .int .i64 0] 43) = v at *
  have A3 := Below.nw v (.cells #[.int .i64 nn, .int .i64 x, .int .i64 y, .int .i64 z] 43)
  have Kx := Bf4.new v nn x y z 43
  have hJv : w.heap.size + 1 + 1 < v.heap.size := R2.1.1
  obtain ⟨n0, n1, n2, n3⟩ := id N
  go_upto_region 2 with fail
  clear n0 n1 n2 n3 w1 w2
  replace N := N.below A3
  replace R := R.below A3
  replace R2 := R2.below A3
  replace CS := CS.below A3
  replace B := B.trans (A3.mono B.size)
  clear A3
  generalize hbk : v.heap.size = bk at *
  generalize v.alloc (.cells #[.int .i64 nn, .int .i64 x, .int .i64 y, .int .i64 z] 43) = v1 at *
  obtain ⟨n0, n1, n2, n3⟩ := id N
  go_wp2_with fail
  have hkv : bk < v1.heap.size := Kx.1.1
  refine (l7Copy_any ep us ad n c M v1 (by omega) CS).mono ?_
  rintro e v2 ⟨a1, c1, rfl, O, hb⟩
  clear n0 n1 n2 n3 N CS
  replace R := R.below hb
  replace R2 := R2.below hb
  replace Kx := Kx.below hb
  replace B := B.trans (hb.mono B.size)
  have hv12 := hb.size
  clear hb
  have A4 := Below.nw v2 (.cells #[.int .i64 ep, .int .i64 us, .slice a1 n c1] 39)
  have Ox := Bx3.new v2 (.int .i64 ep) (.int .i64 us) (.slice a1 n c1) 39
  have OL : ∀ g, (Value.slice a1 n c1).ownBlock = some g → v1.heap.size ≤ g ∧ g < v2.heap.size := fun g hg => World.ownsRow.lt O g hg
  replace R := R.below A4
  replace R2 := R2.below A4
  replace Kx := Kx.below A4
  replace O := own_belK' O A4
  replace B := B.trans (A4.mono B.size)
  clear A4
  go_upto_region 3 with fail
  generalize hbo : v2.heap.size = bo at *
  generalize v2.alloc (.cells #[.int .i64 ep, .int .i64 us, .slice a1 n c1] 39) = v3 at *
  obtain ⟨o0, o1, o2, o3, o4, o5, o6⟩ := id Ox
  obtain ⟨⟨k0, k1, k2, k3, k4⟩, -, -, -, -⟩ := id Kx
  have O' := World.ownsRow.alloc O (.cells #[.int .i64 nn, .int .i64 x, .int .i64 y, .int .i64 z] 43)
  have HN : Hid (∀ j u, [Value.int .i64 nn, .int .i64 x, .int .i64 y, .int .i64 z][j]? = some u → (v3.alloc (.cells #[.int .i64 nn, .int .i64 x, .int .i64 y, .int .i64 z] 43)).cell? ((⟨v3.heap.size, 0, none⟩ : Addr).add j) = some u) := fun j u hu => four_at v3 nn x y z 43 j u hu
  go_wp2_with (at_builtin; refine wpList_append_own _ rfl _ _ 37 rfl v1.heap.size 43 i0 (.agg #[.int .i64 0, .int .i64 0, .int .i64 0, .int .i64 0]) 4 32 Try.underlying37 hi hz0 hz1 hz2 rfl (by decide) _ _ _ rfl O' ⟨v3.heap.size, 0, none⟩ 1 1 [.int .i64 nn, .int .i64 x, .int .i64 y, .int .i64 z] rfl rfl HN.out (four_one _ _ _ _) ?c3 ?c4 ?c5 ?_)
  case c3 => unfold maxLen; omega
  case c4 => omega
  case c5 => simp; omega
  intro v' wn hown' hgrow _
  rw [HW.out] at hown'
  clear k0 k1 k2 k3 k4 o0 o1 o2 o3 o4 o5 o6 HN HW
  have A5 := Below.nw v3 (.cells #[.int .i64 nn, .int .i64 x, .int .i64 y, .int .i64 z] 43)
  have hs5 := A5.size
  replace R := (R.below A5).kept3 hgrow (fun e => by have := OL _ e.symm; omega)
  replace R2 := (R2.below A5).kept hgrow (fun e => by have := OL _ e.symm; omega)
  replace Kx := (Kx.below A5).kept hgrow (fun e => by have := OL _ e.symm; omega)
  replace Ox := (Ox.below A5).kept3 hgrow (fun e => by have := OL _ e.symm; omega)
  replace B := (B.trans (A5.mono B.size)).trans (grown_bel hgrow (B.trans (A5.mono B.size)).size (fun b h e => by have := OL _ e.symm; omega))
  clear A5 O O' hgrow
  obtain ⟨a', c', rfl, _, _, _⟩ := ownF_src hown'
  -- the row lies apart from the box of the copy
  have PB := But.oneK wn bo 2 (.slice a' (n + 1) c')
  have hno : ∀ g, (Value.slice a' (n + 1) c').ownBlock = some g → g ≠ bo := own_cells3 hown' Ox (fun _ _ h => by cases h)
  replace hown' := own_neK hown' PB hno
  replace R := R.but PB (by omega)
  replace R2 := R2.but PB (by omega)
  replace Kx := Kx.but PB (by omega)
  replace B := B.trans (PB.below (B := w.heap.size) (by omega) B.size)
  have O2 := Ox.set2 (.slice a' (n + 1) c')
  obtain ⟨o0, o1, o2, o3, o4, o5, o6⟩ := Ox
  clear PB
  go_upto_region 4 with fail
  clear o0 o1 o2 o3 o4 o5 o6
  generalize wn.setCell ⟨bo, 2, none⟩ (.slice a' (n + 1) c') = v5 at *
  have PB := But.oneK v5 bo 1 (.int .i64 (us + 1))
  replace hown' := own_neK hown' PB hno
  replace R := R.but PB (by omega)
  replace R2 := R2.but PB (by omega)
  replace Kx := Kx.but PB (by omega)
  replace B := B.trans (PB.below (B := w.heap.size) (by omega) B.size)
  have O3 := O2.set1 (.int .i64 (us + 1))
  obtain ⟨o0, o1, o2, o3, o4, o5, o6⟩ := O2
  clear PB
  go_upto_region 5 with fail
  clear o0 o1 o2 o3 o4 o5 o6
  generalize v5.setCell ⟨bo, 1, none⟩ (.int .i64 (us + 1)) = v6 at *
  have P1 := put3_butK v6 (w.heap.size + 1) (.int .i64 ep) (.int .i64 (us + 1)) (.slice a' (n + 1) c')
  have RQ := R.set (.int .i64 ep) (.int .i64 (us + 1)) (.slice a' (n + 1) c')
  have P2 := put4_but ((((v6.setCell ⟨w.heap.size + 1, 0, none⟩ (.int .i64 ep)).setCell ⟨w.heap.size + 1, 1, none⟩ (.int .i64 (us + 1))).setCell ⟨w.heap.size + 1, 2, none⟩ (.slice a' (n + 1) c'))) (w.heap.size + 1 + 1) nn x y z
  have RQ2 := (R2.but P1 (by omega)).set nn x y z
  replace RQ := RQ.but P2 (by omega)
  have BQ1 := B.trans (P1.below (B := w.heap.size) (by omega) B.size)
  have BQ := BQ1.trans (P2.below (B := w.heap.size) (by omega) BQ1.size)
  have OQ := ownK_le (base' := w.heap.size) (own_butK (own_butK hown' P1 (by omega)) P2 (by omega)) (by omega)
  have KZ : Hid (World.ownsRow _ _ _ _ _ _ _ ∧ Below _ _ _) := ⟨OQ, BQ⟩
  obtain ⟨o0, o1, o2, o3, -, -, -⟩ := O3
  obtain ⟨⟨k0, k1, k2, k3, k4⟩, -, -, -, -⟩ := Kx
  obtain ⟨r0, r1, r2, r3, r4, r5, r6⟩ := R
  obtain ⟨⟨f0, f1, f2, f3, f4⟩, f5, f6, f7, f8⟩ := R2
  clear P1 P2 BQ1 BQ OQ hown' OL hno
  unfold put4 at RQ RQ2 KZ
  go_region
  clear o0 o1 o2 o3 k0 k1 k2 k3 k4 r0 r1 r2 r3 r4 r5 r6 f0 f1 f2 f3 f4 f5 f6 f7 f8 B
  generalize ((((((v6.setCell ⟨w.heap.size + 1, 0, none⟩ (.int .i64 ep)).setCell ⟨w.heap.size + 1, 1, none⟩ (.int .i64 (us + 1))).setCell ⟨w.heap.size + 1, 2, none⟩ (.slice a' (n + 1) c')).setCell ⟨w.heap.size + 1 + 1, 0, none⟩ (.int .i64 nn)).setCell ⟨w.heap.size + 1 + 1, 1, none⟩ (.int .i64 x)).setCell ⟨w.heap.size + 1 + 1, 2, none⟩ (.int .i64 y)).setCell ⟨w.heap.size + 1 + 1, 3, none⟩ (.int .i64 z) = wz at *
  obtain ⟨q0, q1, q2, q3, -, -, -⟩ := RQ
  obtain ⟨⟨g0, g1, g2, g3, g4⟩, -, -, -, -⟩ := RQ2
  go_wp2_with fail
  exact bodyPost_ret (v := .tuple #[.agg #[.int .i64 ep, .int .i64 (us + 1), .slice a' (n + 1) c'], .agg #[.int .i64 nn, .int .i64 x, .int .i64 y, .int .i64 z]]) (by simp (maxDischargeDepth := 6) [results, Try.results60, go_sem, *]) rfl ⟨a', c', rfl, World.ownsRow.drew KZ.out.1, Below.drew KZ.out.2⟩
end Go.Proofs.Ytgfhcilhibbooaa
