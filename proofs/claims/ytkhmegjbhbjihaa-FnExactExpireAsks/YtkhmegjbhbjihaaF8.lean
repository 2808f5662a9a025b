/- The contract of impl.ExpireAsks. -/
import Derived.Test.YtkhmegjbhbjihaaF7
import Derived.Deep.RegionHeld3
import Derived.Deep.DeepCutAuto
import Derived.WalkKit
import Derived.WalkSpells
import Derived.WalkLawsBesides
import Derived.Deep.RegionHeld
namespace Go.Proofs.Ytkhmegjbhbjihaa
open Go.RowKit
set_option linter.unusedVariables false
theorem el_at {ep us : Int} {M : Nat → KT} {n : Nat} (h : tabB ep us M n = true) : atB (lst M n) := by
  intro K hK
  simp only [lst, List.mem_map, List.mem_range] at hK
  obtain ⟨j, hj, rfl⟩ := hK
  have h1 := tOk_el (tabB_tOk h) hj
  simp only [elB, akB, tmB, Bool.and_eq_true, decide_eq_true_eq] at h1
  exact h1.2.1.2
theorem tmB_in {x : Int} (h : tmB x = true) : 0 ≤ x ∧ x ≤ 1000000000000 := of_decide_eq_true h
theorem Bx3.belB7 {w w' : World} {B j : Nat} {u0 u1 u2 : Value} (h : Bx3 w j u0 u1 u2) (hb : Below B w w') (hj : j < B) : Bx3 w' j u0 u1 u2 := by
  obtain ⟨h0, h1, h2, h3, h4, h5, h6⟩ := h
  exact ⟨Nat.lt_of_lt_of_le h0 hb.size, by rw [hb.cell (p := ⟨j, 0, none⟩) hj]; exact h1, by rw [hb.cell (p := ⟨j, 1, none⟩) hj]; exact h2, by rw [hb.cell (p := ⟨j, 2, none⟩) hj]; exact h3, by rw [hb.frozen (p := ⟨j, 0, none⟩) hj]; exact h4, by rw [hb.frozen (p := ⟨j, 1, none⟩) hj]; exact h5, by rw [hb.frozen (p := ⟨j, 2, none⟩) hj]; exact h6⟩
theorem nil_disj (n c : Nat) (a : Option Addr) : ∀ g, (Value.slice none 0 0).ownBlock = some g → (Value.slice a n c).ownBlock ≠ some g := fun g h => by simp [Value.ownBlock] at h
set_option maxHeartbeats 8000000 in
theorem implExpire_bad (ep us : Int) (a : Option Addr) (n c : Nat) (M : Nat → KT) (x y : Int) (w : World) (hm : n ≤ maxLen) (hf : SrcC w a (n * 4) (MFAsk M)) (hw : ∀ i, i < n → (Lit.int .i64 (M i).1).wf = true) (hbad : (tabB ep us M n && tmB x && tmB y) = false) :
    Calls Try.prog 29 #[.agg #[.int .i64 ep, .int .i64 us, .slice a n c], .int .i64 x, .int .i64 y] w fun e w' => ∃ a' c' a1 c1, e = .returned (.tuple #[.agg #[.int .i64 0, .int .i64 0, .slice a' 0 c'], .slice a1 0 c1]) ∧ w'.ownsRow w.heap.size 44 4 (.slice a' 0 c') 0 (krow (M) 0) ∧ w'.ownsRow w.heap.size 44 4 (.slice a1 0 c1) 0 (krow (M) 0) ∧ (∀ g, (Value.slice a' 0 c').ownBlock = some g → (Value.slice a1 0 c1).ownBlock ≠ some g) ∧ Below w.heap.size w w' := by
  have N := (IB3.new w ep us a n c 35).below (Below.nw _ (.cells #[.int .i64 0, .int .i64 0, .slice none 0 0] 35))
  have R := Bx3.new (w.alloc (.cells #[.int .i64 ep, .int .i64 us, .slice a n c] 35)) (.int .i64 0) (.int .i64 0) (.slice none 0 0) 35
  have B := (Below.nw w (.cells #[.int .i64 ep, .int .i64 us, .slice a n c] 35)).trans ((Below.nw (w.alloc (.cells #[.int .i64 ep, .int .i64 us, .slice a n c] 35)) (.cells #[.int .i64 0, .int .i64 0, .slice none 0 0] 35)).mono (by simp))
  simp only [World.size_alloc] at R
  have C := bookOf_any ep us a n c M _ hm (hf.below B) hw
  clear hf hw
  go_enter Try.func29, Try.ntmps29
  go_upto_region 1 with fail
  generalize (w.alloc (.cells #[.int .i64 ep, .int .i64 us, .slice a n c] 35)).alloc (.cells #[.int .i64 0, .int .i64 0, .slice none 0 0] 35) = wa at *
  have hJ1 := R.1
  obtain ⟨n9, n0, n1, n2⟩ := id N
  go_wp2_with fail
  refine C.mono ?_
  rintro e wb ⟨V, rfl, hV0, hV1, hb⟩
  clear n9 n0 n1 n2 N
  replace R := R.below hb
  replace B := B.trans (hb.mono B.size)
  clear C
  cases ht : tabB ep us M n
  · have hV := hV0 ht
    subst hV
    clear hV0 hV1 ht hb hbad
    unfold zbk
    have A2 := Below.nw wb (.cells #[.int .i64 0, .int .i64 0, .map none] 66)
    replace R := R.below A2
    replace B := B.trans (A2.mono B.size)
    clear A2
    go_upto_region 2 with fail
    generalize wb.alloc (.cells #[.int .i64 0, .int .i64 0, .map none] 66) = wz at *
    have RQ := R.set (.int .i64 0) (.int .i64 0) (.slice none 0 0)
    have PB := put3_butK wz (w.heap.size + 1) (.int .i64 0) (.int .i64 0) (.slice none 0 0)
    have BQ := B.trans (PB.below (B := w.heap.size) (by omega) B.size)
    have OQ := World.ownsRow_nil (((wz.setCell ⟨w.heap.size + 1, 0, none⟩ (.int .i64 0)).setCell ⟨w.heap.size + 1, 1, none⟩ (.int .i64 0)).setCell ⟨w.heap.size + 1, 2, none⟩ (.slice none 0 0)) w.heap.size 44 4
    have SQ := OQ
    have DQ := nil_disj 0 0 none
    have KZ : Hid (_ ∧ _ ∧ _ ∧ _) := ⟨OQ, SQ, DQ, BQ⟩
    obtain ⟨r0, r1, r2, r3, r4, r5, r6⟩ := R
    clear PB OQ SQ DQ BQ
    go_wp2_with fail
    generalize (((wz.setCell ⟨w.heap.size + 1, 0, none⟩ (.int .i64 0)).setCell ⟨w.heap.size + 1, 1, none⟩ (.int .i64 0)).setCell ⟨w.heap.size + 1, 2, none⟩ (.slice none 0 0)) = wq at *
    obtain ⟨q0, q1, q2, q3, q4, q5, q6⟩ := RQ
    exact bodyPost_ret (v := .tuple #[.agg #[.int .i64 0, .int .i64 0, .slice none 0 0], .slice none 0 0]) (by simp (maxDischargeDepth := 6) [results, Try.results29, go_sem, q1, q2, q3]) rfl ⟨_, _, _, _, rfl, KZ.out⟩
  · rw [ht] at hbad
    obtain ⟨bm, rfl, hbm, MP⟩ := hV1 ht
    clear hV0 hV1 ht hb
    have A2 := Below.nw wb (.cells #[.int .i64 ep, .int .i64 us, .map (some bm)] 66)
    replace R := R.below A2
    replace B := B.trans (A2.mono B.size)
    clear A2 MP
    go_upto_region 2 with fail
    generalize wb.alloc (.cells #[.int .i64 ep, .int .i64 us, .map (some bm)] 66) = wz at *
    cases h1 : tmB x
    · clear hbad
      go_wp2_with fail
      refine (isTime_any _ _).mono ?_
      rintro e w' ⟨rfl, rfl⟩
      rw [h1]
      have RQ := R.set (.int .i64 0) (.int .i64 0) (.slice none 0 0)
      have PB := put3_butK wz (w.heap.size + 1) (.int .i64 0) (.int .i64 0) (.slice none 0 0)
      have BQ := B.trans (PB.below (B := w.heap.size) (by omega) B.size)
      have OQ := World.ownsRow_nil (((wz.setCell ⟨w.heap.size + 1, 0, none⟩ (.int .i64 0)).setCell ⟨w.heap.size + 1, 1, none⟩ (.int .i64 0)).setCell ⟨w.heap.size + 1, 2, none⟩ (.slice none 0 0)) w.heap.size 44 4
      have SQ := OQ
      have DQ := nil_disj 0 0 none
      have KZ : Hid (_ ∧ _ ∧ _ ∧ _) := ⟨OQ, SQ, DQ, BQ⟩
      obtain ⟨r0, r1, r2, r3, r4, r5, r6⟩ := R
      clear PB OQ SQ DQ BQ
      go_wp2_with fail
      generalize (((wz.setCell ⟨w.heap.size + 1, 0, none⟩ (.int .i64 0)).setCell ⟨w.heap.size + 1, 1, none⟩ (.int .i64 0)).setCell ⟨w.heap.size + 1, 2, none⟩ (.slice none 0 0)) = wq at *
      obtain ⟨q0, q1, q2, q3, q4, q5, q6⟩ := RQ
      exact bodyPost_ret (v := .tuple #[.agg #[.int .i64 0, .int .i64 0, .slice none 0 0], .slice none 0 0]) (by simp (maxDischargeDepth := 6) [results, Try.results29, go_sem, q1, q2, q3]) rfl ⟨_, _, _, _, rfl, KZ.out⟩
    · have h2 : tmB y = false := by rw [h1] at hbad; exact hbad
      clear hbad
      go_wp2_with fail
      refine (isTime_any _ _).mono ?_
      rintro e w' ⟨rfl, rfl⟩
      rw [h1]
      go_wp2_with fail
      refine (isTime_any _ _).mono ?_
      rintro e w' ⟨rfl, rfl⟩
      rw [h2]
      have RQ := R.set (.int .i64 0) (.int .i64 0) (.slice none 0 0)
      have PB := put3_butK wz (w.heap.size + 1) (.int .i64 0) (.int .i64 0) (.slice none 0 0)
      have BQ := B.trans (PB.below (B := w.heap.size) (by omega) B.size)
      have OQ := World.ownsRow_nil (((wz.setCell ⟨w.heap.size + 1, 0, none⟩ (.int .i64 0)).setCell ⟨w.heap.size + 1, 1, none⟩ (.int .i64 0)).setCell ⟨w.heap.size + 1, 2, none⟩ (.slice none 0 0)) w.heap.size 44 4
      have SQ := OQ
      have DQ := nil_disj 0 0 none
      have KZ : Hid (_ ∧ _ ∧ _ ∧ _) := ⟨OQ, SQ, DQ, BQ⟩
      obtain ⟨r0, r1, r2, r3, r4, r5, r6⟩ := R
      clear PB OQ SQ DQ BQ
      go_wp2_with fail
      generalize (((wz.setCell ⟨w.heap.size + 1, 0, none⟩ (.int .i64 0)).setCell ⟨w.heap.size + 1, 1, none⟩ (.int .i64 0)).setCell ⟨w.heap.size + 1, 2, none⟩ (.slice none 0 0)) = wq at *
      obtain ⟨q0, q1, q2, q3, q4, q5, q6⟩ := RQ
      exact bodyPost_ret (v := .tuple #[.agg #[.int .i64 0, .int .i64 0, .slice none 0 0], .slice none 0 0]) (by simp (maxDischargeDepth := 6) [results, Try.results29, go_sem, q1, q2, q3]) rfl ⟨_, _, _, _, rfl, KZ.out⟩
set_option maxHeartbeats 8000000 in
theorem implExpire_done (ep us : Int) (a : Option Addr) (n c : Nat) (M : Nat → KT) (x y : Int) (w : World) (hm : n ≤ maxLen) (hf : SrcC w a (n * 4) (MFAsk M)) (hw : ∀ i, i < n → (Lit.int .i64 (M i).1).wf = true) (ht : tabB ep us M n = true) (h1 : tmB x = true) (h2 : tmB y = true) :
    Calls Try.prog 29 #[.agg #[.int .i64 ep, .int .i64 us, .slice a n c], .int .i64 x, .int .i64 y] w fun e w' => ∃ a' c' a1 c1, e = .returned (.tuple #[.agg #[.int .i64 ep, .int .i64 us, .slice a' (kep x y (lst M n)).length c'], .slice a1 (gon x y (lst M n)).length c1]) ∧ w'.ownsRow w.heap.size 44 4 (.slice a' (kep x y (lst M n)).length c') (kep x y (lst M n)).length (krow (rowL (kep x y (lst M n))) (kep x y (lst M n)).length) ∧ w'.ownsRow w.heap.size 44 4 (.slice a1 (gon x y (lst M n)).length c1) (gon x y (lst M n)).length (krow (rowL (gon x y (lst M n))) (gon x y (lst M n)).length) ∧ (∀ g, (Value.slice a' (kep x y (lst M n)).length c').ownBlock = some g → (Value.slice a1 (gon x y (lst M n)).length c1).ownBlock ≠ some g) ∧ Below w.heap.size w w' := by
  have N := (IB3.new w ep us a n c 35).below (Below.nw _ (.cells #[.int .i64 0, .int .i64 0, .slice none 0 0] 35))
  have R := Bx3.new (w.alloc (.cells #[.int .i64 ep, .int .i64 us, .slice a n c] 35)) (.int .i64 0) (.int .i64 0) (.slice none 0 0) 35
  have B := (Below.nw w (.cells #[.int .i64 ep, .int .i64 us, .slice a n c] 35)).trans ((Below.nw (w.alloc (.cells #[.int .i64 ep, .int .i64 us, .slice a n c] 35)) (.cells #[.int .i64 0, .int .i64 0, .slice none 0 0] 35)).mono (by simp))
  simp only [World.size_alloc] at R
  have C := bookOf_any ep us a n c M _ hm (hf.below B) hw
  clear hf hw
  go_enter Try.func29, Try.ntmps29
  go_upto_region 1 with fail
  generalize (w.alloc (.cells #[.int .i64 ep, .int .i64 us, .slice a n c] 35)).alloc (.cells #[.int .i64 0, .int .i64 0, .slice none 0 0] 35) = wa at *
  have hJ1 := R.1
  obtain ⟨n9, n0, n1, n2⟩ := id N
  go_wp2_with fail
  refine C.mono ?_
  rintro e wb ⟨V, rfl, hV0, hV1, hb⟩
  clear n9 n0 n1 n2 N
  replace R := R.below hb
  replace B := B.trans (hb.mono B.size)
  clear C
  obtain ⟨bm, rfl, hbm, MP⟩ := hV1 ht
  rw [ht]
  have hok := tabB_tOk ht
  have hn16 := tabB_len' ht
  have HFL : Hid (FL (lkK M n) (lst M n)) := FL_lst (FA.lk (tOk_asc hok))
  have HAT : Hid (atB (lst M n)) := el_at ht
  clear hV0 hV1 hok ht
  have A2 := Below.nw wb (.cells #[.int .i64 ep, .int .i64 us, .map (some bm)] 66)
  have X := Bx3.new wb (.int .i64 ep) (.int .i64 us) (.map (some bm)) 66
  have hmb : bm < wb.heap.size := MP.lt
  have hab := hb.size
  replace R := R.below A2
  replace MP := MP.below A2
  replace B := B.trans (A2.mono B.size)
  have hzs := A2.size
  clear A2 hb
  go_upto_region 2 with fail
  generalize hbx : wb.heap.size = bx at *
  generalize wb.alloc (.cells #[.int .i64 ep, .int .i64 us, .map (some bm)] 66) = wz at *
  go_wp2_with fail
  refine (isTime_any _ _).mono ?_
  rintro e w' ⟨rfl, rfl⟩
  rw [h1]
  go_wp2_with fail
  refine (isTime_any _ _).mono ?_
  rintro e w' ⟨rfl, rfl⟩
  rw [h2]
  go_wp2_with fail
  refine (takeLate_any bx bm n ep us x y _ (lst M n) wz X MP (by omega) HFL.out (by omega) (tmB_in h1) HAT.out).mono ?_
  rintro e w5 ⟨a1, c1, F5, rfl, OS, X5, MP5, HF5, hb5⟩
  have HF : Hid (FL F5 (kep x y (lst M n))) := HF5
  have hs5 := hb5.2.2.2.1
  replace R := R.but hb5 (by omega)
  replace B := B.trans (hb5.below (B := w.heap.size) (by omega) B.size)
  have OSL : ∀ g, (Value.slice a1 (gon x y (lst M n)).length c1).ownBlock = some g → wz.heap.size ≤ g ∧ g < w5.heap.size := fun g hg => World.ownsRow.lt OS g hg
  clear hb5 X MP HF5
  go_wp2_with fail
  refine (table_any bx bm n (kep x y (lst M n)).length ep us F5 (rowL (kep x y (lst M n))) w5 X5 MP5 (by omega) HF.out).mono ?_
  rintro e w6 ⟨a', c', rfl, OW, hb6⟩
  replace R := R.below hb6
  have hw5 : w.heap.size + 1 < w5.heap.size := by omega
  have hw56 : w.heap.size ≤ w5.heap.size := by omega
  replace OS := own_belK' OS hb6
  replace B := B.trans (hb6.mono B.size)
  have OWL : ∀ g, (Value.slice a' (kep x y (lst M n)).length c').ownBlock = some g → w5.heap.size ≤ g ∧ g < w6.heap.size := fun g hg => World.ownsRow.lt OW g hg
  clear hb6 X5 MP5
  have RQ := R.set (.int .i64 ep) (.int .i64 us) (.slice a' (kep x y (lst M n)).length c')
  have PB := put3_butK w6 (w.heap.size + 1) (.int .i64 ep) (.int .i64 us) (.slice a' (kep x y (lst M n)).length c')
  have BQ := B.trans (PB.below (B := w.heap.size) (by omega) B.size)
  have OQ := ownK_le (base' := w.heap.size) (own_butK OW PB (by omega)) hw56
  have SQ := ownK_le (base' := w.heap.size) (own_butK OS PB (by omega)) (by omega)
  have DQ : ∀ g, (Value.slice a' (kep x y (lst M n)).length c').ownBlock = some g → (Value.slice a1 (gon x y (lst M n)).length c1).ownBlock ≠ some g := fun g h1 h2 => by have q1 := OWL g h1; have q2 := OSL g h2; omega
  have KZ : Hid (_ ∧ _ ∧ _ ∧ _) := ⟨OQ, SQ, DQ, BQ⟩
  obtain ⟨r0, r1, r2, r3, r4, r5, r6⟩ := R
  clear PB OQ SQ DQ BQ
  go_wp2_with fail
  generalize (((w6.setCell ⟨w.heap.size + 1, 0, none⟩ (.int .i64 ep)).setCell ⟨w.heap.size + 1, 1, none⟩ (.int .i64 us)).setCell ⟨w.heap.size + 1, 2, none⟩ (.slice a' (kep x y (lst M n)).length c')) = wq at *
  obtain ⟨q0, q1, q2, q3, q4, q5, q6⟩ := RQ
  exact bodyPost_ret (v := .tuple #[.agg #[.int .i64 ep, .int .i64 us, .slice a' (kep x y (lst M n)).length c'], .slice a1 (gon x y (lst M n)).length c1]) (by simp (maxDischargeDepth := 6) [results, Try.results29, go_sem, q1, q2, q3]) rfl ⟨_, _, _, _, rfl, KZ.out⟩
end Go.Proofs.Ytkhmegjbhbjihaa
