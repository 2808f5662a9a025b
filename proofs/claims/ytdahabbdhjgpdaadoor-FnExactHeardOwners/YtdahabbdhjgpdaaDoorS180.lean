/- HeardNow, HeardLost, HeardUnlike, HeardOwners in the program. -/
import Derived.Test.YtdahabbdhjgpdaaDoorS179
import Derived.Test.YtdahabbdhjgpdaaDoorS164
import Derived.Deep.RegionHeld3
import Derived.Deep.DeepCutAuto
import Derived.WalkKit
import Derived.WalkSpells
import Derived.WalkLawsBesides
import Derived.Deep.RegionHeld
namespace Go.Proofs.YtdahabbdhjgpdaaDoor
open Go.RowKit
set_option linter.unusedVariables false
/- The sets, as the lists that the specification tells. -/
theorem hasJ_iff {g : Nat → Int} {x : Int} {n : Nat} : hasJ g x n = true ↔ ∃ j, j < n ∧ g j = x := ⟨hasJ_t, fun ⟨j, h1, h2⟩ => hasJ_yes h2 h1⟩
theorem gI_mem {L : List Int} {x : Int} : hasJ (gI L) x L.length = true ↔ x ∈ L := by
  rw [hasJ_iff, List.mem_iff_getElem?]
  constructor
  · rintro ⟨j, h1, h2⟩
    refine ⟨j, ?_⟩
    rw [← h2]; unfold gI; simp [h1]
  · rintro ⟨j, h⟩
    obtain ⟨h1, h2⟩ := List.getElem?_eq_some_iff.1 h
    refine ⟨j, h1, ?_⟩
    unfold gI; simp [h1, h2]
theorem nwL_asc {M : Nat → VT} {n : Nat} {s g : Int} {PM : Nat → SlT} {m : Nat} {nu de c : Int} : ascF 0 (nwL M n s g PM m nu de c) := by
  unfold nwL
  cases h : rtB M n s g PM m nu de c
  · trivial
  · have h1 : hrB M n = true := by unfold rtB at h; simp only [Bool.and_eq_true] at h; exact h.1
    exact fiL_asc (hrB_t h1).2 (Nat.le_refl n)
theorem la_bit {M : Nat → VT} {n : Nat} {s g : Int} {PM : Nat → SlT} {m : Nat} {nu de c : Int} (i : Nat) : (laN M n s g PM m nu de c).testBit i = true ↔ (i : Int) ∈ nwL M n s g PM m nu de c := by
  unfold laN nwL
  cases h : rtB M n s g PM m nu de c
  · simp
  · have h1 : hrB M n = true := by unfold rtB at h; simp only [Bool.and_eq_true] at h; exact h.1
    have h2 := (hrB_t h1).2
    show (foN (nwP M s g PM m nu de c) (slS M) n).testBit i = true ↔ (i : Int) ∈ fiL (nwP M s g PM m nu de c) (slS M) n
    rw [foN_bit fun i hi _ => slS_in h2 hi, fiL_in]
    constructor
    · rintro ⟨j, a, b, e⟩; exact ⟨j, a, b, e.symm⟩
    · rintro ⟨j, a, b, e⟩; exact ⟨j, a, b, e.symm⟩
theorem la_lt {M : Nat → VT} {n : Nat} {s g : Int} {PM : Nat → SlT} {m : Nat} {nu de c : Int} : laN M n s g PM m nu de c < 65536 := by
  unfold laN
  cases h : rtB M n s g PM m nu de c
  · show (0 : Nat) < 65536; decide
  · have h1 : hrB M n = true := by unfold rtB at h; simp only [Bool.and_eq_true] at h; exact h.1
    exact foN_lt fun i hi _ => slS_in (hrB_t h1).2 hi
theorem la_num {M : Nat → VT} {n : Nat} {s g : Int} {PM : Nat → SlT} {m : Nat} {nu de c : Int} : laN M n s g PM m nu de c = numL (nwL M n s g PM m nu de c) :=
  num_eq nwL_asc fun i => by
    rw [Bool.eq_iff_iff, la_bit, decide_eq_true_eq]
theorem id_bit (m i : Nat) (hm : m ≤ 12) : (foN yes (fun i => (i : Int)) m).testBit i = decide (i < m) := by
  rw [Bool.eq_iff_iff, foN_bit fun j hj _ => ⟨by omega, by omega⟩, decide_eq_true_eq]
  constructor
  · rintro ⟨j, h1, _, h3⟩; omega
  · intro h; exact ⟨i, h, rfl, rfl⟩
theorem id_lt (m : Nat) (hm : m ≤ 12) : foN yes (fun i => (i : Int)) m < 65536 := foN_lt fun j hj _ => ⟨by omega, by omega⟩
theorem not_bit (a b i : Nat) (hb : b < 65536) (ha : a < 65536) : (a &&& (18446744073709551615 - b)).testBit i = (a.testBit i && !b.testBit i) := by
  rw [Nat.testBit_and, show 18446744073709551615 - b = 2 ^ 64 - (b + 1) by omega, Nat.testBit_two_pow_sub_succ (by omega)]
  by_cases h : i < 64
  · rw [decide_eq_true h, Bool.true_and]
  · have : a.testBit i = false := Nat.testBit_lt_two_pow (Nat.lt_of_lt_of_le ha (Nat.pow_le_pow_right (n := 2) (i := 16) (by decide) (by omega)))
    rw [this]; simp
theorem lo_num {M : Nat → VT} {n : Nat} {s g : Int} {PM : Nat → SlT} {m : Nat} {nu de c : Int} (hm : m ≤ 12) : foN yes (fun i => (i : Int)) m &&& (18446744073709551615 - laN M n s g PM m nu de c) = numL (slJ (loP (nwL M n s g PM m nu de c)) m) :=
  slJ_num (by omega) fun i => by
    rw [not_bit _ _ _ la_lt (id_lt m hm), id_bit m i hm]
    congr 1
    unfold loP
    congr 1
    rw [Bool.eq_iff_iff, la_bit, gI_mem]
theorem sh_bit {M : Nat → VT} {n : Nat} (h : hrA M n = true) (i : Nat) : (foN yes (slS M) n).testBit i = hasJ (slS M) (i : Int) n := by
  rw [Bool.eq_iff_iff, foN_bit fun j hj _ => slS_in h hj, hasJ_iff]
  constructor
  · rintro ⟨j, h1, _, h3⟩; exact ⟨j, h1, h3⟩
  · rintro ⟨j, h1, h3⟩; exact ⟨j, h1, rfl, h3⟩
theorem sh_lt {M : Nat → VT} {n : Nat} (h : hrA M n = true) : foN yes (slS M) n < 65536 := foN_lt fun j hj _ => slS_in h hj
theorem has_low {M : Nat → VT} {n i : Nat} (h : hrA M n = true) (hi : ¬ i < 16) : hasJ (slS M) (i : Int) n = false := by
  cases e : hasJ (slS M) (i : Int) n
  · rfl
  · obtain ⟨j, h1, h2⟩ := hasJ_iff.1 e
    have := slS_in h h1
    omega
theorem un_num {M W : Nat → VT} {n k : Nat} (h : hrA M n = true) (h' : hrA W k = true) : foN yes (slS M) n ^^^ foN yes (slS W) k = numL (slJ (unP M n W k) 16) :=
  slJ_num (Nat.le_refl _) fun i => by
    rw [Nat.testBit_xor, sh_bit h, sh_bit h']
    unfold unP
    by_cases hi : i < 16
    · rw [decide_eq_true hi, Bool.true_and]; try rfl
    · rw [has_low h hi, has_low h' hi, decide_eq_false hi]; try rfl
/- Owners. -/
def ownP (M : Nat → VT) (m : Nat) (i : Nat) : Bool := decide (slS M i < (m : Int))
def ownG (M : Nat → VT) (PM : Nat → SlT) (i : Nat) : Int := (PM (slS M i).toNat).1
theorem ownG_in {M : Nat → VT} {n : Nat} {s g : Int} {PM : Nat → SlT} {m i : Nat} (h : hrA M n = true) (hp : plB s g PM m = true) (hi : i < n) (ho : ownP M m i = true) : 0 ≤ ownG M PM i ∧ ownG M PM i ≤ 7 := by
  have h1 := slS_in h hi
  have h2 : slS M i < (m : Int) := of_decide_eq_true ho
  exact (slB_t (slA_at (plB_t hp).2.2.2 (show (slS M i).toNat < m by omega))).1
theorem ofS_iff {M : Nat → VT} {n : Nat} {PM : Nat → SlT} {o : Int} : ∀ {m : Nat}, ofS M n PM o m = true ↔ ∃ i, i < m ∧ (PM i).1 = o ∧ hasJ (slS M) (i : Int) n = true
  | 0 => by simp [ofS]
  | m + 1 => by
    rw [ofS, Bool.or_eq_true, ofS_iff (m := m), Bool.and_eq_true, beq_iff_eq]
    constructor
    · rintro (⟨i, h1, h2, h3⟩ | ⟨h2, h3⟩)
      · exact ⟨i, by omega, h2, h3⟩
      · exact ⟨m, by omega, h2, h3⟩
    · rintro ⟨i, h1, h2, h3⟩
      by_cases e : i = m
      · subst e; exact Or.inr ⟨h2, h3⟩
      · exact Or.inl ⟨i, by omega, h2, h3⟩
theorem ow_num {M : Nat → VT} {n : Nat} {s g : Int} {PM : Nat → SlT} {m : Nat} (h : hrA M n = true) (hp : plB s g PM m = true) : foN (ownP M m) (ownG M PM) n = numL (slJ (owP M n PM m) 8) :=
  slJ_num (by omega) fun i => by
    rw [Bool.eq_iff_iff, foN_bit fun j hj ho => ⟨(ownG_in h hp hj ho).1, by have := (ownG_in h hp hj ho).2; omega⟩, Bool.and_eq_true, decide_eq_true_eq]
    unfold owP
    rw [ofS_iff]
    constructor
    · rintro ⟨j, h1, h2, h3⟩
      have h4 := ownG_in h hp h1 h2
      have h5 := slS_in h h1
      have h6 : slS M j < (m : Int) := of_decide_eq_true h2
      refine ⟨by omega, (slS M j).toNat, by omega, h3, hasJ_iff.2 ⟨j, h1, by omega⟩⟩
    · rintro ⟨_, q, h1, h2, h3⟩
      obtain ⟨j, h4, h5⟩ := hasJ_iff.1 h3
      refine ⟨j, h4, decide_eq_true (by omega), ?_⟩
      unfold ownG
      rw [h5]; exact h2
set_option maxRecDepth 100000 in
set_option maxHeartbeats 8000000 in
theorem implHeardNow_any (a : Option Addr) (n k : Nat) (M : Nat → VT) (s g : Int) (p : Option Addr) (m d : Nat) (PM : Nat → SlT) (nu de c : Int) (w : World) (T : Tb w) (hm : n ≤ maxLen) (hs : SrcC w a (n * 2) (MFIval M)) (hpm : m ≤ maxLen) (hp : SrcC w p (m * 2) (MFSlot PM)) :
    Calls Tryd.prog 14 #[.slice a n k, .agg #[.int .i64 s, .int .i64 g, .slice p m d], .agg #[.int .i64 nu, .int .i64 de], .int .i64 c] w fun e w' => ∃ v, e = .returned v ∧ w'.ownsRow w.heap.size 3 1 v (nwL M n s g PM m nu de c).length (irow (nwL M n s g PM m nu de c)) ∧ Below w.heap.size w w' := by
  have A0 := Below.nw w (.cells #[.int .i64 s, .int .i64 g, .slice p m d] 27)
  have A1 := Below.nw (w.alloc (.cells #[.int .i64 s, .int .i64 g, .slice p m d] 27)) (.cells #[.int .i64 nu, .int .i64 de] 39)
  have N := (Tx3.new w (.int .i64 s) (.int .i64 g) (.slice p m d) 27).below A1
  have D := Bx2.new (w.alloc (.cells #[.int .i64 s, .int .i64 g, .slice p m d] 27)) (.int .i64 nu) (.int .i64 de) 39
  have B := A0.trans (A1.mono A0.size)
  simp only [World.size_alloc] at D
  clear A0 A1
  have C1 := fun (w' : World) (h : Below w.heap.size w w') => lately_any a n k M s g p m d PM nu de c w' hm (hs.below h) hpm (hp.below h)
  have HT : Hid (Tb w) := T
  rw [la_num] at C1
  have C2 := fun (w' : World) (h : Below w.heap.size w w') => list_any (nwL M n s g PM m nu de c) nwL_asc w' (HT.out.below h)
  clear T hs hp
  generalize nwL M n s g PM m nu de c = L at *
  generalize rtB M n s g PM m nu de c = R at *
  go_enter Tryd.func14, Tryd.ntmps14
  go_upto_region 1 with fail
  generalize (w.alloc (.cells #[.int .i64 s, .int .i64 g, .slice p m d] 27)).alloc (.cells #[.int .i64 nu, .int .i64 de] 39) = v at *
  obtain ⟨n0, n1, n2, n3, n4, n5, n6⟩ := id N
  obtain ⟨d0, d1, d2, d3, d4⟩ := id D
  go_wp2_with fail
  refine (C1 _ B).mono ?_
  rintro e v1 ⟨rfl, hb⟩
  clear n0 n1 n2 n3 n4 n5 n6
  clear d0 d1 d2 d3 d4
  replace B := B.trans (hb.mono B.size)
  clear hb N D C1
  go_wp2_with fail
  refine (C2 _ B).mono ?_
  rintro e v2 ⟨v', rfl, OW, hb⟩
  have HO : Hid (v2.ownsRow w.heap.size 3 1 v' L.length (irow L)) := own_baseI16 OW B.size
  replace B := B.trans (hb.mono B.size)
  clear OW hb C2
  go_wp2_with fail
  go_ret
  exact ⟨_, rfl, HO.out, B⟩
set_option maxRecDepth 100000 in
set_option maxHeartbeats 8000000 in
theorem implHeardLost_any (a : Option Addr) (n k : Nat) (M : Nat → VT) (s g : Int) (p : Option Addr) (m d : Nat) (PM : Nat → SlT) (nu de c : Int) (w : World) (T : Tb w) (hm : n ≤ maxLen) (hs : SrcC w a (n * 2) (MFIval M)) (hpm : m ≤ maxLen) (hp : SrcC w p (m * 2) (MFSlot PM)) :
    Calls Tryd.prog 15 #[.slice a n k, .agg #[.int .i64 s, .int .i64 g, .slice p m d], .agg #[.int .i64 nu, .int .i64 de], .int .i64 c] w fun e w' => ∃ v, e = .returned v ∧ w'.ownsRow w.heap.size 3 1 v (loL M n s g PM m nu de c).length (irow (loL M n s g PM m nu de c)) ∧ Below w.heap.size w w' := by
  have A0 := Below.nw w (.cells #[.int .i64 s, .int .i64 g, .slice p m d] 27)
  have A1 := Below.nw (w.alloc (.cells #[.int .i64 s, .int .i64 g, .slice p m d] 27)) (.cells #[.int .i64 nu, .int .i64 de] 39)
  have N := (Tx3.new w (.int .i64 s) (.int .i64 g) (.slice p m d) 27).below A1
  have D := Bx2.new (w.alloc (.cells #[.int .i64 s, .int .i64 g, .slice p m d] 27)) (.int .i64 nu) (.int .i64 de) 39
  have B := A0.trans (A1.mono A0.size)
  simp only [World.size_alloc] at D
  clear A0 A1
  have C1 := fun (w' : World) (h : Below w.heap.size w w') => lately_any a n k M s g p m d PM nu de c w' hm (hs.below h) hpm (hp.below h)
  have HT : Hid (Tb w) := T
  clear T hs hp
  cases hR : rtB M n s g PM m nu de c
  · have HV : Hid (loL M n s g PM m nu de c = []) := by rw [Hid, loL, hR]
    rw [hR] at C1
    generalize laN M n s g PM m nu de c = la at *
    clear HT hR
    go_enter Tryd.func15, Tryd.ntmps15
    go_upto_region 1 with fail
    generalize (w.alloc (.cells #[.int .i64 s, .int .i64 g, .slice p m d] 27)).alloc (.cells #[.int .i64 nu, .int .i64 de] 39) = v at *
    obtain ⟨n0, n1, n2, n3, n4, n5, n6⟩ := id N
    obtain ⟨d0, d1, d2, d3, d4⟩ := id D
    go_wp2_with fail
    refine (C1 _ B).mono ?_
    rintro e v1 ⟨rfl, hb⟩
    clear n0 n1 n2 n3 n4 n5 n6
    clear d0 d1 d2 d3 d4
    replace B := B.trans (hb.mono B.size)
    clear hb N D C1
    go_wp2_with fail
    go_ret
    exact ⟨_, rfl, by rw [HV.out]; exact World.ownsRow_nil _ _ _ _, B⟩
  · have hpl : plB s g PM m = true := by unfold rtB at hR; simp only [Bool.and_eq_true] at hR; exact hR.2.1
    have hm12 : m ≤ 12 := (plB_t hpl).2.2.1.2
    have HV : Hid (loL M n s g PM m nu de c = slJ (loP (nwL M n s g PM m nu de c)) m) := by rw [Hid, loL, hR]
    have hlo := lo_num (M := M) (n := n) (s := s) (g := g) (PM := PM) (nu := nu) (de := de) (c := c) hm12
    have hla := la_lt (M := M) (n := n) (s := s) (g := g) (PM := PM) (m := m) (nu := nu) (de := de) (c := c)
    have hid := id_lt m hm12
    have C2 := fun w' => slotSet_any s g p m d w' hm12
    have C3 := fun (w' : World) (h : Below w.heap.size w w') => list_any (slJ (loP (nwL M n s g PM m nu de c)) m) (slJ_asc (by omega)) w' (HT.out.below h)
    rw [hR] at C1
    rw [← hlo] at C3
    clear hlo hR hpl hm12 HT
    generalize slJ (loP (nwL M n s g PM m nu de c)) m = L at *
    generalize laN M n s g PM m nu de c = la at *
    generalize foN yes (fun i => (i : Int)) m = id0 at *
    rw [← u64_andNot_nat id0 la (by omega) (by omega)] at C3
    go_enter Tryd.func15, Tryd.ntmps15
    go_upto_region 1 with fail
    generalize (w.alloc (.cells #[.int .i64 s, .int .i64 g, .slice p m d] 27)).alloc (.cells #[.int .i64 nu, .int .i64 de] 39) = v at *
    obtain ⟨n0, n1, n2, n3, n4, n5, n6⟩ := id N
    obtain ⟨d0, d1, d2, d3, d4⟩ := id D
    go_wp2_with fail
    refine (C1 _ B).mono ?_
    rintro e v1 ⟨rfl, hb⟩
    clear n0 n1 n2 n3 n4 n5 n6
    clear d0 d1 d2 d3 d4
    replace B := B.trans (hb.mono B.size)
    replace N := N.below hb
    clear hb D C1
    obtain ⟨n0, n1, n2, n3, n4, n5, n6⟩ := id N
    go_wp2_with fail
    refine (C2 _).mono ?_
    rintro e v2 ⟨rfl, hb⟩
    clear n0 n1 n2 n3 n4 n5 n6
    replace B := B.trans (hb.mono B.size)
    clear hb N C2
    go_wp2_with fail
    refine (C3 _ B).mono ?_
    rintro e v3 ⟨v', rfl, OW, hb⟩
    have HO : Hid (v3.ownsRow w.heap.size 3 1 v' L.length (irow L)) := own_baseI16 OW B.size
    replace B := B.trans (hb.mono B.size)
    clear OW hb C3
    go_wp2_with fail
    go_ret
    exact ⟨_, rfl, by rw [HV.out]; exact HO.out, B⟩
set_option maxRecDepth 100000 in
set_option maxHeartbeats 8000000 in
theorem implHeardUnlike_any (a : Option Addr) (n k : Nat) (M : Nat → VT) (a' : Option Addr) (n' k' : Nat) (M' : Nat → VT) (w : World) (T : Tb w) (hm : n ≤ maxLen) (hs : SrcC w a (n * 2) (MFIval M)) (hm' : n' ≤ maxLen) (hs' : SrcC w a' (n' * 2) (MFIval M')) :
    Calls Tryd.prog 19 #[.slice a n k, .slice a' n' k'] w fun e w' => ∃ v, e = .returned v ∧ w'.ownsRow w.heap.size 3 1 v (unL M n M' n').length (irow (unL M n M' n')) ∧ Below w.heap.size w w' := by
  have HT : Hid (Tb w) := T
  have HS : Hid (SrcC w a (n * 2) (MFIval M)) := hs
  have HS' : Hid (SrcC w a' (n' * 2) (MFIval M')) := hs'
  have C1 := fun (w' : World) (h : Below w.heap.size w w') => implHeardOk_any a n k M w' hm (HS.out.below h)
  have C2 := fun (w' : World) (h : Below w.heap.size w w') => implHeardOk_any a' n' k' M' w' hm' (HS'.out.below h)
  have B := Below.refl w.heap.size w
  clear T hs hs'
  cases h1 : hrB M n
  · have HV : Hid (unL M n M' n' = []) := by rw [Hid, unL, h1, Bool.false_and]
    clear C2 HT
    go_enter Tryd.func19, Tryd.ntmps19
    go_wp2_with fail
    refine (C1 _ B).mono ?_
    rintro e v1 ⟨rfl, hb⟩
    rw [h1]
    clear C1 B
    go_wp2_with fail
    go_ret
    exact ⟨_, rfl, by rw [HV.out]; exact World.ownsRow_nil _ _ _ _, hb⟩
  cases h2 : hrB M' n'
  · have HV : Hid (unL M n M' n' = []) := by rw [Hid, unL, h1, h2, Bool.and_false]
    clear HT
    go_enter Tryd.func19, Tryd.ntmps19
    go_wp2_with fail
    refine (C1 _ B).mono ?_
    rintro e v1 ⟨rfl, hb⟩
    rw [h1]
    clear C1 B
    go_wp2_with fail
    refine (C2 _ hb).mono ?_
    rintro e v2 ⟨rfl, hb2⟩
    rw [h2]
    replace hb := hb.trans (hb2.mono hb.size)
    clear C2 hb2
    go_wp2_with fail
    go_ret
    exact ⟨_, rfl, by rw [HV.out]; exact World.ownsRow_nil _ _ _ _, hb⟩
  have HV : Hid (unL M n M' n' = slJ (unP M n M' n') 16) := by (rw [Hid, unL, h1, h2]; try rfl)
  have r1 := hrB_t h1
  have r2 := hrB_t h2
  have hun := un_num r1.2 r2.2
  have l1 := sh_lt r1.2
  have l2 := sh_lt r2.2
  have C3 := fun (w' : World) (h : Below w.heap.size w w') => slotsHeard_any a n k M w' r1.2 r1.1 (HS.out.below h)
  have C4 := fun (w' : World) (h : Below w.heap.size w w') => slotsHeard_any a' n' k' M' w' r2.2 r2.1 (HS'.out.below h)
  have C5 := fun (w' : World) (h : Below w.heap.size w w') => list_any (slJ (unP M n M' n') 16) (slJ_asc (Nat.le_refl _)) w' (HT.out.below h)
  rw [← hun] at C5
  clear hun r1 r2 HT HS HS'
  generalize slJ (unP M n M' n') 16 = L at *
  generalize foN yes (slS M) n = X at *
  generalize foN yes (slS M') n' = Y at *
  rw [← u64_xor_nat X Y (by omega) (by omega)] at C5
  go_enter Tryd.func19, Tryd.ntmps19
  go_wp2_with fail
  refine (C1 _ B).mono ?_
  rintro e v1 ⟨rfl, hb⟩
  rw [h1]
  clear C1 B
  go_wp2_with fail
  refine (C2 _ hb).mono ?_
  rintro e v2 ⟨rfl, hb2⟩
  rw [h2]
  replace hb := hb.trans (hb2.mono hb.size)
  clear C2 hb2 h1 h2
  go_wp2_with fail
  refine (C3 _ hb).mono ?_
  rintro e v3 ⟨rfl, hb2⟩
  replace hb := hb.trans (hb2.mono hb.size)
  clear C3 hb2
  go_wp2_with fail
  refine (C4 _ hb).mono ?_
  rintro e v4 ⟨rfl, hb2⟩
  replace hb := hb.trans (hb2.mono hb.size)
  clear C4 hb2
  go_wp2_with fail
  refine (C5 _ hb).mono ?_
  rintro e v5 ⟨v', rfl, OW, hb2⟩
  have HO : Hid (v5.ownsRow w.heap.size 3 1 v' L.length (irow L)) := own_baseI16 OW hb.size
  replace hb := hb.trans (hb2.mono hb.size)
  clear OW hb2 C5
  go_wp2_with fail
  go_ret
  exact ⟨_, rfl, by rw [HV.out]; exact HO.out, hb⟩
set_option maxRecDepth 100000 in
set_option maxHeartbeats 8000000 in
theorem implHeardOwners_any (a : Option Addr) (n k : Nat) (M : Nat → VT) (s g : Int) (p : Option Addr) (m d : Nat) (PM : Nat → SlT) (w : World) (T : Tb w) (hm : n ≤ maxLen) (hs : SrcC w a (n * 2) (MFIval M)) (hpm : m ≤ maxLen) (hp : SrcC w p (m * 2) (MFSlot PM)) :
    Calls Tryd.prog 18 #[.slice a n k, .agg #[.int .i64 s, .int .i64 g, .slice p m d]] w fun e w' => ∃ v, e = .returned v ∧ w'.ownsRow w.heap.size 3 1 v (onL M n s g PM m).length (irow (onL M n s g PM m)) ∧ Below w.heap.size w w' := by
  have B := Below.nw w (.cells #[.int .i64 s, .int .i64 g, .slice p m d] 27)
  have N := Tx3.new w (.int .i64 s) (.int .i64 g) (.slice p m d) 27
  have HS : Hid (SrcC w a (n * 2) (MFIval M)) := hs
  have HP : Hid (SrcC w p (m * 2) (MFSlot PM)) := hp
  have HT : Hid (Tb w) := T
  have C1 := fun w' h => implHeardOk_any a n k M w' hm h
  have C2 := fun w' h => planOk_any s g p m d PM w' hpm h
  clear T hs hp
  cases h1 : hrB M n
  · have HV : Hid (onL M n s g PM m = []) := by rw [Hid, onL, h1, Bool.false_and]
    go_enter Tryd.func18, Tryd.ntmps18; go_upto_region 1 with fail; generalize w.alloc (.cells #[.int .i64 s, .int .i64 g, .slice p m d] 27) = v at *
    go_wp2_with fail; refine (C1 _ (HS.out.below B)).mono ?_; rintro e v1 ⟨rfl, hb⟩; rw [h1]; replace B := B.trans (hb.mono B.size); replace N := N.below hb; clear hb
    go_wp2_with fail
    go_ret
    exact ⟨_, rfl, by rw [HV.out]; exact World.ownsRow_nil _ _ _ _, B⟩
  cases h2 : plB s g PM m
  · have HV : Hid (onL M n s g PM m = []) := by rw [Hid, onL, h1, h2, Bool.and_false]
    go_enter Tryd.func18, Tryd.ntmps18; go_upto_region 1 with fail; generalize w.alloc (.cells #[.int .i64 s, .int .i64 g, .slice p m d] 27) = v at *
    go_wp2_with fail; refine (C1 _ (HS.out.below B)).mono ?_; rintro e v1 ⟨rfl, hb⟩; rw [h1]; replace B := B.trans (hb.mono B.size); replace N := N.below hb; clear hb
    obtain ⟨n0, n1, n2, n3, n4, n5, n6⟩ := id N; go_wp2_with fail; refine (C2 _ (HP.out.below B)).mono ?_; rintro e v2 ⟨rfl, hb⟩; clear n0 n1 n2 n3 n4 n5 n6; rw [h2]; replace B := B.trans (hb.mono B.size); replace N := N.below hb; clear hb
    go_wp2_with fail
    go_ret
    exact ⟨_, rfl, by rw [HV.out]; exact World.ownsRow_nil _ _ _ _, B⟩
  have HV : Hid (onL M n s g PM m = slJ (owP M n PM m) 8) := by rw [Hid, onL, h1, h2]; rfl
  have HH : Hid (hrA M n = true) := (hrB_t h1).2
  have HPL : Hid (plB s g PM m = true) := h2
  have hn16 := (hrB_t h1).1
  have hm12 : 1 ≤ m ∧ m ≤ 12 := (plB_t h2).2.2.1
  have C3 := fun (w' : World) (h : Below w.heap.size w w') => list_any (slJ (owP M n PM m) 8) (slJ_asc (by omega)) w' (HT.out.below h)
  rw [← ow_num HH.out HPL.out] at C3
  go_enter Tryd.func18, Tryd.ntmps18; go_upto_region 1 with fail; generalize w.alloc (.cells #[.int .i64 s, .int .i64 g, .slice p m d] 27) = v at *
  go_wp2_with fail; refine (C1 _ (HS.out.below B)).mono ?_; rintro e v1 ⟨rfl, hb⟩; rw [h1]; replace B := B.trans (hb.mono B.size); replace N := N.below hb; clear hb
  obtain ⟨n0, n1, n2, n3, n4, n5, n6⟩ := id N; go_wp2_with fail; refine (C2 _ (HP.out.below B)).mono ?_; rintro e v2 ⟨rfl, hb⟩; clear n0 n1 n2 n3 n4 n5 n6; rw [h2]; replace B := B.trans (hb.mono B.size); replace N := N.below hb; clear hb
  clear C1 C2 h1 h2 HT hm hpm
  go_wp2_with fail
  go_loopw [5, 18] (fun l i wr => ∃ (q : Nat), q ≤ n ∧ l = .int .u64 (foN (ownP M m) (ownG M PM) q : Int) ∧ i = .int .i64 (q : Int) ∧ Below w.heap.size w wr ∧ Tx3 wr w.heap.size (.int .i64 s) (.int .i64 g) (.slice p m d)) (fun _ i _ => n - (intOf i).toNat)
  case atStart => exact ⟨0, Nat.zero_le _, rfl, rfl, B, N⟩
  case round =>
    clear B N
    obtain ⟨q, hq, rfl, rfl, B, N⟩ := hrel
    by_cases hlt : q < n
    · obtain ⟨x0, x1, hM⟩ := tupIval M q
      obtain ⟨b, off, rfl, hf⟩ : ∃ b off, a = some ⟨b, off, none⟩ ∧ Cs w b off (n * 2) (MFIval M) := by
        rcases HS.out with q | q
        · exact absurd q (by omega)
        · exact q
      obtain ⟨c0, c1⟩ := (hf.below B hf.1).elIval hlt hM
      have HLT : Hid (q < n) := hlt
      have hli : (q : Int) < (n : Int) := by omega
      have h0 := slS_in HH.out hlt
      have e0 : slS M q = x0 := by unfold slS; rw [hM]
      have HIN := fun (ho : ownP M m q = true) => ownG_in HH.out HPL.out hlt ho
      have hfl := foN_lt (P := ownP M m) (g := ownG M PM) (k := q) fun i hi ho => by have := ownG_in HH.out HPL.out (show i < n by omega) ho; omega
      have HF1 : ownP M m q = false → Hid (foN (ownP M m) (ownG M PM) (q + 1) = foN (ownP M m) (ownG M PM) q) := fun h => foN_no h
      have HF2 : ownP M m q = true → Hid (foN (ownP M m) (ownG M PM) (q + 1) = foN (ownP M m) (ownG M PM) q ||| 2 ^ (PM x0.toNat).1.toNat) := fun h => by rw [Hid, foN_yes h, ownG, e0]
      have hoP : ownP M m q = decide (x0 < (m : Int)) := by unfold ownP; rw [e0]
      have hoG : ownG M PM q = (PM x0.toNat).1 := by unfold ownG; rw [e0]
      rw [hoP] at HF1 HF2 HIN
      rw [hoG] at HIN
      rw [e0] at h0
      generalize foN (ownP M m) (ownG M PM) q = S at *
      have A1 := Below.nw wr (.cells #[.int .i64 x0, .int .i64 x1] 80)
      have Z := Bx2.new wr (.int .i64 x0) (.int .i64 x1) 80
      replace B := B.trans (A1.mono B.size)
      replace N := N.below A1
      clear A1 hM hf e0 hoP hoG
      go_upto_region 7 with fail
      clear c0 c1
      generalize wr.alloc (.cells #[.int .i64 x0, .int .i64 x1] 80) = v9 at *
      generalize wr.heap.size = jo at *
      obtain ⟨z0, z1, z2, z3, z4⟩ := id Z
      obtain ⟨n0, n1, n2, n3, n4, n5, n6⟩ := id N
      by_cases hx : x0 < (m : Int)
      · replace HF2 := HF2 (decide_eq_true hx)
        replace HIN := HIN (decide_eq_true hx)
        obtain ⟨b', off', rfl, hf'⟩ : ∃ b off, p = some ⟨b, off, none⟩ ∧ Cs w b off (m * 2) (MFSlot PM) := by
          rcases HP.out with q | q
          · exact absurd q (by omega)
          · exact q
        obtain ⟨q', hq'⟩ : ∃ q' : Nat, x0 = (q' : Int) := ⟨x0.toNat, by omega⟩
        subst hq'
        rw [Int.toNat_natCast] at HF2 HIN
        obtain ⟨o, l, hO⟩ := tupSlot PM q'
        obtain ⟨o0, -⟩ := (hf'.below B hf'.1).elSlot (show q' < m by omega) hO
        rw [hO] at HF2 HIN
        have C5 := fun w' => with_any S o.toNat w' hfl (by have := HIN; omega)
        rw [show ((o.toNat : Nat) : Int) = o by have := HIN; omega] at C5
        clear HF1 hO hf' HIN hfl h0
        go_wp2_with fail
        refine (C5 _).mono ?_
        rintro e v5 ⟨rfl, rfl⟩
        clear C5
        have HF2' : Hid (foN (ownP M m) (ownG M PM) (q + 1) = S ||| 2 ^ o.toNat) := HF2
        rw [← HF2'.out]
        clear HF2 HF2'
        go_wp2_with fail
        go_roundw
        case rel => exact ⟨q + 1, HLT.out, rfl, by go_num, B, N⟩
        case measure => have hlt' := HLT.out; simp [intOf]; omega
      · replace HF1 := HF1 (decide_eq_false hx)
        clear HF2 HIN hfl h0
        go_wp2_with fail
        go_roundw
        case rel => exact ⟨q + 1, HLT.out, by rw [HF1.out], by go_num, B, N⟩
        case measure => have hlt' := HLT.out; simp [intOf]; omega
    · have hkn : q = n := by omega
      subst hkn
      have hli : ¬ (q : Int) < (q : Int) := by omega
      go_wp2_with fail
      refine (C3 _ B).mono ?_
      rintro e v3 ⟨v', rfl, OW, hb⟩
      have HO : Hid (v3.ownsRow w.heap.size 3 1 v' (slJ (owP M q PM m) 8).length (irow (slJ (owP M q PM m) 8))) := own_baseI16 OW B.size
      replace B := B.trans (hb.mono B.size)
      clear OW hb C3
      go_wp2_with fail
      go_ret
      exact ⟨_, rfl, by rw [HV.out]; exact HO.out, B⟩
end Go.Proofs.YtdahabbdhjgpdaaDoor
