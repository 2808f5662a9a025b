/- Contracts of Reboot. -/
import Derived.Test.YtlaladalnbdhpaaB5
import Derived.Test.YtlaladalnbdhpaaA5
import Derived.MapKept
import Derived.Deep.DeepCutAuto
import Derived.WalkKit
import Derived.WalkSpells
import Derived.WalkLawsBesides
import Derived.Deep.RegionHeld
namespace Go.Proofs.Ytlaladalnbdhpaa
open Go.RowKit
set_option linter.unusedVariables false
theorem MapK.clear {w : World} {b n : Nat} {F : Int → Option KT} (h : MapK w b n F) (ty : TypeId) :
    ∃ w', (Builtin.clear_ #[48] ty #[.map (some b)]).run Try.prog w = .ok (.tuple #[]) w' ∧ MapK w' b 0 (fun _ => none) ∧ w.grownBy w' (some b) := by
  obtain ⟨D, ⟨es, clock, hb, Ft, hs, hD⟩, h2⟩ := h
  refine ⟨{ w with heap := w.heap.setIfInBounds b (.map #[] clock) }, ?_, ⟨.map [], ⟨#[], clock, (MapKept.heap_set hb).1, ⟨by simp, MapKept.stamped_empty _, by simp⟩, Nat.zero_le _, rfl⟩, fun x => ⟨fun z => rfl, rfl⟩⟩, ⟨rfl, rfl, rfl, by simp, fun k hk hne => (MapKept.heap_set hb).2 k (fun e => hne (by rw [e]))⟩⟩
  simp [Builtin.clear_, run_underlying Try.underlying48, MapKept.run_getObj_map hb, MapKept.run_setObj_map _ hb, Result.andThen]
set_option maxHeartbeats 4000000 in
theorem turnTo_any (bx bm n base : Nat) (ep us x : Int) (F : Int → Option KT) (w : World) (X : Bx3 w bx (.int .i64 ep) (.int .i64 us) (.map (some bm))) (MP : MapK w bm n F) (hne : bx ≠ bm) (h1 : base ≤ bx) (h2 : base ≤ bm) (h3 : base ≤ w.heap.size) :
    Calls Try.prog 30 #[.pointer (some ⟨bx, 0, none⟩), .int .i64 x] w fun e w' => e = .returned (.tuple #[]) ∧ Bx3 w' bx (.int .i64 x) (.int .i64 0) (.map (some bm)) ∧ MapK w' bm 0 (fun _ => none) ∧ Below base w w' := by
  obtain ⟨w1, hclr, MP1, hg⟩ := MP.clear 0
  have HC : ∀ ty, (Builtin.clear_ #[48] ty #[.map (some bm)]).run Try.prog w = .ok (.tuple #[]) w1 := fun ty => hclr
  have PB := But.ofGrownK hg
  have X1 := X.but PB hne
  have B1 := PB.below h2 h3
  obtain ⟨x0, x1, x2, x3, -, -, -⟩ := X
  clear hclr MP hg
  go_enter Try.func30, Try.ntmps30
  go_upto_region 1 with fail
  clear x0 x1 x2 x3 HC PB
  have P2 := (But.oneK w1 bx 0 (.int .i64 x)).trans (But.oneK (w1.setCell ⟨bx, 0, none⟩ (.int .i64 x)) bx 1 (.int .i64 0))
  have X2 : Bx3 ((w1.setCell ⟨bx, 0, none⟩ (.int .i64 x)).setCell ⟨bx, 1, none⟩ (.int .i64 0)) bx (.int .i64 x) (.int .i64 0) (.map (some bm)) := by
    obtain ⟨h0, c0, c1, c2, f0, f1, f2⟩ := X1
    refine ⟨by simpa using h0, ?_, ?_, ?_, by simpa using f0, by simpa using f1, by simpa using f2⟩
    · exact (World.cell?_setCell_other _ _ _ _ (by simp)).trans (World.cell?_setCell_same _ _ _ c0)
    · exact World.cell?_setCell_same _ _ _ ((World.cell?_setCell_other _ _ _ _ (by simp)).trans c1)
    · exact (World.cell?_setCell_other _ _ _ _ (by simp)).trans ((World.cell?_setCell_other _ _ _ _ (by simp)).trans c2)
  have MP2 := MP1.but P2 (fun e => hne e.symm)
  have B2 := B1.trans (P2.below h1 (Nat.le_trans h3 B1.size))
  obtain ⟨x0, x1, x2, x3, f0, f1, f2⟩ := X1
  clear MP1 P2
  go_wp2_with fail
  go_end0
  exact ⟨rfl, X2, MP2, B2⟩
def rbB (ep us : Int) (M : Nat → KT) (n : Nat) (x : Int) : Bool := tabB ep us M n && decide (1 ≤ x ∧ x ≤ 100000) && decide (ep < x)
def rbE (ep us : Int) (M : Nat → KT) (n : Nat) (x : Int) : Int := bif rbB ep us M n x then x else 0
def rbC (ep us : Int) (M : Nat → KT) (n : Nat) (x : Int) : Int := bif rbB ep us M n x then 0 else 1
theorem rb_no {ep us : Int} {M : Nat → KT} {n : Nat} {x : Int} (h : rbB ep us M n x = false) : rbE ep us M n x = 0 ∧ rbC ep us M n x = 1 := by rw [rbE, rbC, h]; exact ⟨rfl, rfl⟩
theorem rb_yes {ep us : Int} {M : Nat → KT} {n : Nat} {x : Int} (h : rbB ep us M n x = true) : rbE ep us M n x = x ∧ rbC ep us M n x = 0 := by rw [rbE, rbC, h]; exact ⟨rfl, rfl⟩
theorem FA_none (A : Nat → KT) : FA (fun _ => none) A 0 := ⟨fun i j _ h => absurd h (Nat.not_lt_zero _), fun j h => absurd h (Nat.not_lt_zero _), fun _ _ => rfl⟩
set_option maxHeartbeats 8000000 in
theorem implReboot_any (ep us : Int) (a : Option Addr) (n c : Nat) (M : Nat → KT) (x : Int) (w : World) (hm : n ≤ maxLen) (hf : SrcC w a (n * 4) (MFAsk M)) (hw : ∀ i, i < n → (Lit.int .i64 (M i).1).wf = true) :
    Calls Try.prog 11 #[.agg #[.int .i64 ep, .int .i64 us, .slice a n c], .int .i64 x] w fun e w' => ∃ a' c', e = .returned (.tuple #[.agg #[.int .i64 (rbE ep us M n x), .int .i64 0, .slice a' 0 c'], .int .i64 (rbC ep us M n x)]) ∧ w'.ownsRow w.heap.size 34 4 (.slice a' 0 c') 0 [] ∧ Below w.heap.size w w' := by
  have N := (IB3.new w ep us a n c 26).below (Below.nw _ (.cells #[.int .i64 0, .int .i64 0, .slice none 0 0] 26))
  have R := Bx3.new (w.alloc (.cells #[.int .i64 ep, .int .i64 us, .slice a n c] 26)) (.int .i64 0) (.int .i64 0) (.slice none 0 0) 26
  have B := (Below.nw w (.cells #[.int .i64 ep, .int .i64 us, .slice a n c] 26)).trans ((Below.nw (w.alloc (.cells #[.int .i64 ep, .int .i64 us, .slice a n c] 26)) (.cells #[.int .i64 0, .int .i64 0, .slice none 0 0] 26)).mono (by simp))
  simp only [World.size_alloc] at R
  have C := bookOf_any ep us a n c M _ hm (hf.below B) hw
  clear hf hw
  go_enter Try.func11, Try.ntmps11
  go_upto_region 1 with fail
  generalize (w.alloc (.cells #[.int .i64 ep, .int .i64 us, .slice a n c] 26)).alloc (.cells #[.int .i64 0, .int .i64 0, .slice none 0 0] 26) = wa at *
  have hJ1 := R.1
  obtain ⟨n9, n0, n1, n2⟩ := id N
  go_wp2_with fail
  refine C.mono ?_
  rintro e wb ⟨V, rfl, hV0, hV1, hb⟩
  clear n9 n0 n1 n2 N
  replace R := R.below hb
  replace B := B.trans (hb.mono B.size)
  clear C
  cases ht : tabB ep us M n
  · have hV := hV0 ht
    subst hV
    have HB : Hid (rbB ep us M n x = false) := by rw [Hid, rbB, ht]; rfl
    have HE' : Hid (rbE ep us M n x = 0 ∧ rbC ep us M n x = 1) := rb_no HB.out
    clear hV0 hV1 ht hb
    unfold zbk
    have A2 := Below.nw wb (.cells #[.int .i64 0, .int .i64 0, .map none] 50)
    replace R := R.below A2
    replace B := B.trans (A2.mono B.size)
    clear A2
    go_upto_region 2 with fail
    generalize wb.alloc (.cells #[.int .i64 0, .int .i64 0, .map none] 50) = wz at *
    have RQ := R.set (.int .i64 0) (.int .i64 0) (.slice none 0 0)
    have PB := put3_butK wz (w.heap.size + 1) (.int .i64 0) (.int .i64 0) (.slice none 0 0)
    have BQ := B.trans (PB.below (B := w.heap.size) (by omega) B.size)
    have OQ := World.ownsRow_nil (((wz.setCell ⟨w.heap.size + 1, 0, none⟩ (.int .i64 0)).setCell ⟨w.heap.size + 1, 1, none⟩ (.int .i64 0)).setCell ⟨w.heap.size + 1, 2, none⟩ (.slice none 0 0)) w.heap.size 34 4
    obtain ⟨r0, r1, r2, r3, r4, r5, r6⟩ := R
    clear PB
    go_wp2_with fail
    generalize (((wz.setCell ⟨w.heap.size + 1, 0, none⟩ (.int .i64 0)).setCell ⟨w.heap.size + 1, 1, none⟩ (.int .i64 0)).setCell ⟨w.heap.size + 1, 2, none⟩ (.slice none 0 0)) = wq at *
    obtain ⟨q0, q1, q2, q3, q4, q5, q6⟩ := RQ
    exact bodyPost_ret (v := .tuple #[.agg #[.int .i64 0, .int .i64 0, .slice none 0 0], .int .i64 1]) (by simp (maxDischargeDepth := 6) [results, Try.results11, go_sem, q1, q2, q3]) rfl ⟨_, _, by rw [HE'.out.1, HE'.out.2], OQ, BQ⟩
  · obtain ⟨bm, rfl, hbm, MP⟩ := hV1 ht
    have hnums := tabB_nums ht
    have hasc := tOk_asc (tabB_tOk ht)
    have hn16 := tabB_len' ht
    clear hV0 hV1
    have A2 := Below.nw wb (.cells #[.int .i64 ep, .int .i64 us, .map (some bm)] 50)
    have X := Bx3.new wb (.int .i64 ep) (.int .i64 us) (.map (some bm)) 50
    have hmb : bm < wb.heap.size := MP.lt
    have hab := hb.size
    replace R := R.below A2
    replace MP := MP.below A2
    replace B := B.trans (A2.mono B.size)
    have hzs := A2.size
    clear A2 hb
    go_upto_region 2 with fail
    generalize hbx : wb.heap.size = bx at *
    generalize wb.alloc (.cells #[.int .i64 ep, .int .i64 us, .map (some bm)] 50) = wz at *
    cases h1 : epB x
    · have HB : Hid (rbB ep us M n x = false) := by
        have : decide (1 ≤ x ∧ x ≤ 100000) = false := by have := of_decide_eq_false h1; simp; omega
        rw [Hid, rbB, this, Bool.and_false]; rfl
      have HE' : Hid (rbE ep us M n x = 0 ∧ rbC ep us M n x = 1) := rb_no HB.out
      clear ht MP X hnums
      go_wp2_with fail
      refine (isEpoch_any _ _).mono ?_
      rintro e w' ⟨rfl, rfl⟩
      rw [h1]
      have RQ := R.set (.int .i64 0) (.int .i64 0) (.slice none 0 0)
      have PB := put3_butK wz (w.heap.size + 1) (.int .i64 0) (.int .i64 0) (.slice none 0 0)
      have BQ := B.trans (PB.below (B := w.heap.size) (by omega) B.size)
      have OQ := World.ownsRow_nil (((wz.setCell ⟨w.heap.size + 1, 0, none⟩ (.int .i64 0)).setCell ⟨w.heap.size + 1, 1, none⟩ (.int .i64 0)).setCell ⟨w.heap.size + 1, 2, none⟩ (.slice none 0 0)) w.heap.size 34 4
      obtain ⟨r0, r1, r2, r3, r4, r5, r6⟩ := R
      clear PB
      go_wp2_with fail
      generalize (((wz.setCell ⟨w.heap.size + 1, 0, none⟩ (.int .i64 0)).setCell ⟨w.heap.size + 1, 1, none⟩ (.int .i64 0)).setCell ⟨w.heap.size + 1, 2, none⟩ (.slice none 0 0)) = wq at *
      obtain ⟨q0, q1, q2, q3, q4, q5, q6⟩ := RQ
      exact bodyPost_ret (v := .tuple #[.agg #[.int .i64 0, .int .i64 0, .slice none 0 0], .int .i64 1]) (by simp (maxDischargeDepth := 6) [results, Try.results11, go_sem, q1, q2, q3]) rfl ⟨_, _, by rw [HE'.out.1, HE'.out.2], OQ, BQ⟩
    · have h1' : 0 ≤ x ∧ x ≤ 100000 := of_decide_eq_true h1
      cases h2 : decide (ep < x)
      · have HB : Hid (rbB ep us M n x = false) := by rw [Hid, rbB, h2, Bool.and_false]
        have HE' : Hid (rbE ep us M n x = 0 ∧ rbC ep us M n x = 1) := rb_no HB.out
        have h2' : decide (x ≤ ep) = true := decide_eq_true (by have := of_decide_eq_false h2; omega)
        clear ht h2 MP hnums h1'
        obtain ⟨x0, x1, x2, x3, -, -, -⟩ := X
        go_wp2_with fail
        refine (isEpoch_any _ _).mono ?_
        rintro e w' ⟨rfl, rfl⟩
        rw [h1]
        have RQ := R.set (.int .i64 0) (.int .i64 0) (.slice none 0 0)
        have PB := put3_butK wz (w.heap.size + 1) (.int .i64 0) (.int .i64 0) (.slice none 0 0)
        have BQ := B.trans (PB.below (B := w.heap.size) (by omega) B.size)
        have OQ := World.ownsRow_nil (((wz.setCell ⟨w.heap.size + 1, 0, none⟩ (.int .i64 0)).setCell ⟨w.heap.size + 1, 1, none⟩ (.int .i64 0)).setCell ⟨w.heap.size + 1, 2, none⟩ (.slice none 0 0)) w.heap.size 34 4
        obtain ⟨r0, r1, r2, r3, r4, r5, r6⟩ := R
        clear PB
        go_wp2_with fail
        generalize (((wz.setCell ⟨w.heap.size + 1, 0, none⟩ (.int .i64 0)).setCell ⟨w.heap.size + 1, 1, none⟩ (.int .i64 0)).setCell ⟨w.heap.size + 1, 2, none⟩ (.slice none 0 0)) = wq at *
        obtain ⟨q0, q1, q2, q3, q4, q5, q6⟩ := RQ
        exact bodyPost_ret (v := .tuple #[.agg #[.int .i64 0, .int .i64 0, .slice none 0 0], .int .i64 1]) (by simp (maxDischargeDepth := 6) [results, Try.results11, go_sem, q1, q2, q3]) rfl ⟨_, _, by rw [HE'.out.1, HE'.out.2], OQ, BQ⟩
      · have h2n := of_decide_eq_true h2
        have HB : Hid (rbB ep us M n x = true) := by rw [Hid, rbB, ht, h2, decide_eq_true (show 1 ≤ x ∧ x ≤ 100000 by omega)]; rfl
        have HE' : Hid (rbE ep us M n x = x ∧ rbC ep us M n x = 0) := rb_yes HB.out
        have h2' : decide (x ≤ ep) = false := decide_eq_false (by omega)
        clear ht h2 hnums h1' h2n
        obtain ⟨x0, x1, x2, x3, -, -, -⟩ := id X
        go_wp2_with fail
        refine (isEpoch_any _ _).mono ?_
        rintro e w' ⟨rfl, rfl⟩
        rw [h1]
        go_wp2_with fail
        clear x0 x1 x2 x3
        refine (turnTo_any bx bm n wa.heap.size ep us x _ _ X MP (by omega) (by omega) (by omega) (by omega)).mono ?_
        rintro e w5 ⟨rfl, X5, MP5, hb5⟩
        have hJ5 : w.heap.size + 1 < wa.heap.size := hJ1
        replace R : Bx3 w5 (w.heap.size + 1) (.int .i64 0) (.int .i64 0) (.slice none 0 0) := by
          obtain ⟨h0, c0, c1, c2, f0, f1, f2⟩ := R
          exact ⟨Nat.lt_of_lt_of_le h0 hb5.size, by rw [hb5.cell (p := ⟨w.heap.size + 1, 0, none⟩) hJ5]; exact c0, by rw [hb5.cell (p := ⟨w.heap.size + 1, 1, none⟩) hJ5]; exact c1, by rw [hb5.cell (p := ⟨w.heap.size + 1, 2, none⟩) hJ5]; exact c2, by rw [hb5.frozen (p := ⟨w.heap.size + 1, 0, none⟩) hJ5]; exact f0, by rw [hb5.frozen (p := ⟨w.heap.size + 1, 1, none⟩) hJ5]; exact f1, by rw [hb5.frozen (p := ⟨w.heap.size + 1, 2, none⟩) hJ5]; exact f2⟩
        replace B := B.trans (hb5.mono (by omega))
        clear hb5 X MP
        go_wp2_with fail
        refine (table_any bx bm 0 0 x 0 _ M _ X5 MP5 (by omega) (FA_none M)).mono ?_
        rintro e w6 ⟨a', c', rfl, OW, hb6⟩
        replace R := R.below hb6
        have hw56 : w.heap.size ≤ w5.heap.size := B.size
        replace B := B.trans (hb6.mono B.size)
        have hw5 : w.heap.size + 1 < w5.heap.size := Nat.lt_of_lt_of_le hJ1 (by have := X5.1; omega)
        clear hb6 X5 MP5
        have RQ := R.set (.int .i64 x) (.int .i64 0) (.slice a' 0 c')
        have PB := put3_butK w6 (w.heap.size + 1) (.int .i64 x) (.int .i64 0) (.slice a' 0 c')
        have BQ := B.trans (PB.below (B := w.heap.size) (by omega) B.size)
        have OQ := ownK_le (base' := w.heap.size) (own_butK OW PB (by omega)) hw56
        obtain ⟨r0, r1, r2, r3, r4, r5, r6⟩ := R
        clear PB
        go_wp2_with fail
        generalize (((w6.setCell ⟨w.heap.size + 1, 0, none⟩ (.int .i64 x)).setCell ⟨w.heap.size + 1, 1, none⟩ (.int .i64 0)).setCell ⟨w.heap.size + 1, 2, none⟩ (.slice a' 0 c')) = wq at *
        obtain ⟨q0, q1, q2, q3, q4, q5, q6⟩ := RQ
        exact bodyPost_ret (v := .tuple #[.agg #[.int .i64 x, .int .i64 0, .slice a' 0 c'], .int .i64 0]) (by simp (maxDischargeDepth := 6) [results, Try.results11, go_sem, q1, q2, q3]) rfl ⟨_, _, by rw [HE'.out.1, HE'.out.2], OQ, BQ⟩
end Go.Proofs.Ytlaladalnbdhpaa
