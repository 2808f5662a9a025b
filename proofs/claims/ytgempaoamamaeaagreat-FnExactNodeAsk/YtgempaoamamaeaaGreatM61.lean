/- The contract of impl.Issue. -/
import Derived.Test.YtgempaoamamaeaaGreatM0
import Derived.Test.YtgempaoamamaeaaGreatM57
import Derived.Test.YtgempaoamamaeaaGreatM60
namespace Go.Proofs.YtgempaoamamaeaaGreat
open Go.RowKit
set_option linter.unusedVariables false
def addG (M : Nat → KT) (n : Nat) (a : KT) (j : Nat) : KT := if j = n then a else M j
theorem FA.add {F : Int → Option KT} {A : Nat → KT} {m : Nat} (h : FA F A m) {a : KT} {nn : Int} (ha : a.1 = nn) (hlt : ∀ j, j < m → (A j).1 < nn) : FA (fun q => if q = nn then some a else F q) (addG A m a) (m + 1) := by
  refine ⟨fun i j hij hj => ?_, fun j hj => ?_, fun x hx => ?_⟩
  · unfold addG
    by_cases e : j = m
    · rw [if_pos e, if_neg (by omega), ha]; exact hlt i (by omega)
    · rw [if_neg e, if_neg (by omega)]; exact h.1 i j hij (by omega)
  · show (if (addG A m a j).1 = nn then some a else F (addG A m a j).1) = some (addG A m a j)
    by_cases e : j = m
    · have e2 : addG A m a j = a := if_pos e
      rw [e2]; exact if_pos ha
    · have e2 : addG A m a j = A j := if_neg e
      rw [e2]; exact (if_neg (by have := hlt j (by omega); omega)).trans (h.2.1 j (by omega))
  · have e1 : x ≠ nn := fun e => hx m (by omega) (by unfold addG; rw [if_pos rfl, ha, e])
    show (if x = nn then some a else F x) = none
    rw [if_neg e1]
    exact h.2.2 x fun j hj => by
      have := hx j (by omega)
      unfold addG at this
      rw [if_neg (by omega)] at this
      exact this
theorem el_lt {ep us : Int} {M : Nat → KT} {n j : Nat} (h : tOk ep us M n = true) (hj : j < n) : (M j).1 < ep * 1000 + us := by
  have h1 := tOk_el h hj
  simp only [elB, Bool.and_eq_true, decide_eq_true_eq] at h1
  obtain ⟨⟨⟨⟨h2, h3⟩, h4⟩, h5⟩, h6⟩ := h1
  have := np_join h2
  omega
set_option maxHeartbeats 8000000 in
theorem implIssue_spent (ep us : Int) (a : Option Addr) (n c : Nat) (M : Nat → KT) (x y : Int) (w : World) (hm : n ≤ maxLen) (hf : SrcC w a (n * 4) (MFAsk M)) (hw : ∀ i, i < n → (Lit.int .i64 (M i).1).wf = true) (ht : tabB ep us M n = true) (h1 : nodB x = true) (h2 : tmB y = true) (hu : Hid (us = 1000)) :
    Calls Tryz.prog 137 #[.agg #[.int .i64 ep, .int .i64 us, .slice a n c], .int .i64 x, .int .i64 y] w fun e w' => ∃ a' c', e = .returned (.tuple #[.agg #[.int .i64 ep, .int .i64 us, .slice a' n c'], .int .i64 0, .int .i64 2]) ∧ w'.ownsRow w.heap.size 125 4 (.slice a' n c') n (krow M n) ∧ Below w.heap.size w w' := by
  have N := (IB3.new w ep us a n c 52).below (Below.nw _ (.cells #[.int .i64 0, .int .i64 0, .slice none 0 0] 52))
  have R := Bx3.new (w.alloc (.cells #[.int .i64 ep, .int .i64 us, .slice a n c] 52)) (.int .i64 0) (.int .i64 0) (.slice none 0 0) 52
  have B := (Below.nw w (.cells #[.int .i64 ep, .int .i64 us, .slice a n c] 52)).trans ((Below.nw (w.alloc (.cells #[.int .i64 ep, .int .i64 us, .slice a n c] 52)) (.cells #[.int .i64 0, .int .i64 0, .slice none 0 0] 52)).mono (by simp))
  simp only [World.size_alloc] at R
  have C := bookOf_any ep us a n c M _ hm (hf.below B) hw
  clear hf hw
  go_enter Tryz.func137, Tryz.ntmps137
  go_upto_region 1 with fail
  generalize (w.alloc (.cells #[.int .i64 ep, .int .i64 us, .slice a n c] 52)).alloc (.cells #[.int .i64 0, .int .i64 0, .slice none 0 0] 52) = wa at *
  have hJ1 := R.1
  obtain ⟨n9, n0, n1, n2⟩ := id N
  go_wp2_with fail
  refine C.mono ?_
  rintro e wb ⟨V, rfl, hV0, hV1, hb⟩
  clear n9 n0 n1 n2 N
  replace R := R.below hb
  replace B := B.trans (hb.mono B.size)
  clear C
  obtain ⟨bm, rfl, hbm, MP⟩ := hV1 ht
  rw [ht]
  have hnums := tabB_nums ht
  have hok := tabB_tOk ht
  have hn16 := tabB_len' ht
  have HFA : Hid (FA (lkK M n) M n) := FA.lk (tOk_asc hok)
  have HEL : Hid (∀ j, j < n → (M j).1 < ep * 1000 + us) := fun j hj => el_lt hok hj
  clear hV0 hV1 hok
  have A2 := Below.nw wb (.cells #[.int .i64 ep, .int .i64 us, .map (some bm)] 232)
  have X := Bx3.new wb (.int .i64 ep) (.int .i64 us) (.map (some bm)) 232
  have hmb : bm < wb.heap.size := MP.lt
  have hab := hb.size
  replace R := R.below A2
  replace MP := MP.below A2
  replace B := B.trans (A2.mono B.size)
  have hzs := A2.size
  clear A2 hb
  go_upto_region 2 with fail
  generalize hbx : wb.heap.size = bx at *
  generalize wb.alloc (.cells #[.int .i64 ep, .int .i64 us, .map (some bm)] 232) = wz at *
  clear hnums
  have HLEN : Hid (∀ ty, (Builtin.len_ #[230] ty #[.map (some bm)]).run Tryz.prog wz = .ok (.int .i64 (n : Int)) wz) := fun ty => MP.len HFA.out ty
  obtain ⟨x0, x1, x2, x3, -, -, -⟩ := id X
  go_wp2_with fail
  refine (isNode_any _ _).mono ?_
  rintro e w' ⟨rfl, rfl⟩
  rw [h1]
  go_wp2_with fail
  refine (isTime_any5 _ _).mono ?_
  rintro e w' ⟨rfl, rfl⟩
  rw [h2]
  have hu1 : (us == 1000) = true := by rw [hu.out]; rfl
  skip
  clear ht hu
  go_wp2_with fail
  clear x0 x1 x2 x3 HLEN hu1
  skip
  skip
  refine (table_any bx bm n n ep us _ M _ X MP (by omega) HFA.out).mono ?_
  rintro e w6 ⟨a', c', rfl, OW, hb6⟩
  replace R := R.below hb6
  have hw5 : w.heap.size + 1 < wz.heap.size := by omega
  have hw56 : w.heap.size ≤ wz.heap.size := by omega
  replace B := B.trans (hb6.mono B.size)
  clear hb6 X MP
  have RQ := R.set (.int .i64 ep) (.int .i64 us) (.slice a' n c')
  have PB := put3_butK w6 (w.heap.size + 1) (.int .i64 ep) (.int .i64 us) (.slice a' n c')
  have BQ := B.trans (PB.below (B := w.heap.size) (by omega) B.size)
  have OQ := ownK_le (base' := w.heap.size) (own_butK OW PB (by omega)) hw56
  obtain ⟨r0, r1, r2, r3, r4, r5, r6⟩ := R
  clear PB
  go_wp2_with fail
  generalize (((w6.setCell ⟨w.heap.size + 1, 0, none⟩ (.int .i64 ep)).setCell ⟨w.heap.size + 1, 1, none⟩ (.int .i64 us)).setCell ⟨w.heap.size + 1, 2, none⟩ (.slice a' n c')) = wq at *
  obtain ⟨q0, q1, q2, q3, q4, q5, q6⟩ := RQ
  exact bodyPost_ret (v := .tuple #[.agg #[.int .i64 ep, .int .i64 us, .slice a' n c'], .int .i64 0, .int .i64 2]) (by simp (maxDischargeDepth := 6) [results, Tryz.results137, go_sem, q1, q2, q3]) rfl ⟨_, _, rfl, OQ, BQ⟩
set_option maxHeartbeats 8000000 in
theorem implIssue_full (ep us : Int) (a : Option Addr) (n c : Nat) (M : Nat → KT) (x y : Int) (w : World) (hm : n ≤ maxLen) (hf : SrcC w a (n * 4) (MFAsk M)) (hw : ∀ i, i < n → (Lit.int .i64 (M i).1).wf = true) (ht : tabB ep us M n = true) (h1 : nodB x = true) (h2 : tmB y = true) (hu : us ≠ 1000) (h16 : Hid (n = 16)) :
    Calls Tryz.prog 137 #[.agg #[.int .i64 ep, .int .i64 us, .slice a n c], .int .i64 x, .int .i64 y] w fun e w' => ∃ a' c', e = .returned (.tuple #[.agg #[.int .i64 ep, .int .i64 us, .slice a' n c'], .int .i64 0, .int .i64 3]) ∧ w'.ownsRow w.heap.size 125 4 (.slice a' n c') n (krow M n) ∧ Below w.heap.size w w' := by
  have N := (IB3.new w ep us a n c 52).below (Below.nw _ (.cells #[.int .i64 0, .int .i64 0, .slice none 0 0] 52))
  have R := Bx3.new (w.alloc (.cells #[.int .i64 ep, .int .i64 us, .slice a n c] 52)) (.int .i64 0) (.int .i64 0) (.slice none 0 0) 52
  have B := (Below.nw w (.cells #[.int .i64 ep, .int .i64 us, .slice a n c] 52)).trans ((Below.nw (w.alloc (.cells #[.int .i64 ep, .int .i64 us, .slice a n c] 52)) (.cells #[.int .i64 0, .int .i64 0, .slice none 0 0] 52)).mono (by simp))
  simp only [World.size_alloc] at R
  have C := bookOf_any ep us a n c M _ hm (hf.below B) hw
  clear hf hw
  go_enter Tryz.func137, Tryz.ntmps137
  go_upto_region 1 with fail
  generalize (w.alloc (.cells #[.int .i64 ep, .int .i64 us, .slice a n c] 52)).alloc (.cells #[.int .i64 0, .int .i64 0, .slice none 0 0] 52) = wa at *
  have hJ1 := R.1
  obtain ⟨n9, n0, n1, n2⟩ := id N
  go_wp2_with fail
  refine C.mono ?_
  rintro e wb ⟨V, rfl, hV0, hV1, hb⟩
  clear n9 n0 n1 n2 N
  replace R := R.below hb
  replace B := B.trans (hb.mono B.size)
  clear C
  obtain ⟨bm, rfl, hbm, MP⟩ := hV1 ht
  rw [ht]
  have hnums := tabB_nums ht
  have hok := tabB_tOk ht
  have hn16 := tabB_len' ht
  have HFA : Hid (FA (lkK M n) M n) := FA.lk (tOk_asc hok)
  have HEL : Hid (∀ j, j < n → (M j).1 < ep * 1000 + us) := fun j hj => el_lt hok hj
  clear hV0 hV1 hok
  have A2 := Below.nw wb (.cells #[.int .i64 ep, .int .i64 us, .map (some bm)] 232)
  have X := Bx3.new wb (.int .i64 ep) (.int .i64 us) (.map (some bm)) 232
  have hmb : bm < wb.heap.size := MP.lt
  have hab := hb.size
  replace R := R.below A2
  replace MP := MP.below A2
  replace B := B.trans (A2.mono B.size)
  have hzs := A2.size
  clear A2 hb
  go_upto_region 2 with fail
  generalize hbx : wb.heap.size = bx at *
  generalize wb.alloc (.cells #[.int .i64 ep, .int .i64 us, .map (some bm)] 232) = wz at *
  clear hnums
  have HLEN : Hid (∀ ty, (Builtin.len_ #[230] ty #[.map (some bm)]).run Tryz.prog wz = .ok (.int .i64 (n : Int)) wz) := fun ty => MP.len HFA.out ty
  obtain ⟨x0, x1, x2, x3, -, -, -⟩ := id X
  go_wp2_with fail
  refine (isNode_any _ _).mono ?_
  rintro e w' ⟨rfl, rfl⟩
  rw [h1]
  go_wp2_with fail
  refine (isTime_any5 _ _).mono ?_
  rintro e w' ⟨rfl, rfl⟩
  rw [h2]
  have hu1 : (us == 1000) = false := by simpa using hu
  have hl1 : ((n : Int) == 16) = true := by rw [h16.out]; rfl
  have hlen := HLEN.out
  clear ht hu
  go_wp2_with fail
  clear x0 x1 x2 x3 HLEN hu1
  clear hl1
  clear hlen
  refine (table_any bx bm n n ep us _ M _ X MP (by omega) HFA.out).mono ?_
  rintro e w6 ⟨a', c', rfl, OW, hb6⟩
  replace R := R.below hb6
  have hw5 : w.heap.size + 1 < wz.heap.size := by omega
  have hw56 : w.heap.size ≤ wz.heap.size := by omega
  replace B := B.trans (hb6.mono B.size)
  clear hb6 X MP
  have RQ := R.set (.int .i64 ep) (.int .i64 us) (.slice a' n c')
  have PB := put3_butK w6 (w.heap.size + 1) (.int .i64 ep) (.int .i64 us) (.slice a' n c')
  have BQ := B.trans (PB.below (B := w.heap.size) (by omega) B.size)
  have OQ := ownK_le (base' := w.heap.size) (own_butK OW PB (by omega)) hw56
  obtain ⟨r0, r1, r2, r3, r4, r5, r6⟩ := R
  clear PB
  go_wp2_with fail
  generalize (((w6.setCell ⟨w.heap.size + 1, 0, none⟩ (.int .i64 ep)).setCell ⟨w.heap.size + 1, 1, none⟩ (.int .i64 us)).setCell ⟨w.heap.size + 1, 2, none⟩ (.slice a' n c')) = wq at *
  obtain ⟨q0, q1, q2, q3, q4, q5, q6⟩ := RQ
  exact bodyPost_ret (v := .tuple #[.agg #[.int .i64 ep, .int .i64 us, .slice a' n c'], .int .i64 0, .int .i64 3]) (by simp (maxDischargeDepth := 6) [results, Tryz.results137, go_sem, q1, q2, q3]) rfl ⟨_, _, rfl, OQ, BQ⟩
set_option maxRecDepth 100000 in
set_option maxHeartbeats 8000000 in
theorem implIssue_done (ep us : Int) (a : Option Addr) (n c : Nat) (M : Nat → KT) (x y : Int) (w : World) (hm : n ≤ maxLen) (hf : SrcC w a (n * 4) (MFAsk M)) (hw : ∀ i, i < n → (Lit.int .i64 (M i).1).wf = true) (ht : tabB ep us M n = true) (h1 : nodB x = true) (h2 : tmB y = true) (hu : us ≠ 1000) (h16 : n ≠ 16) (nn : Int) (hnn : ep * 1000 + us = nn) :
    Calls Tryz.prog 137 #[.agg #[.int .i64 ep, .int .i64 us, .slice a n c], .int .i64 x, .int .i64 y] w fun e w' => ∃ a' c', e = .returned (.tuple #[.agg #[.int .i64 ep, .int .i64 (us + 1), .slice a' (n + 1) c'], .int .i64 nn, .int .i64 0]) ∧ w'.ownsRow w.heap.size 125 4 (.slice a' (n + 1) c') (n + 1) (krow (addG M n (kT nn x y 1)) (n + 1)) ∧ Below w.heap.size w w' := by
  have hu1 : (us == 1000) = false := by simpa using hu
  have hl1 : ((n : Int) == 16) = false := by simp; omega
  have N := (IB3.new w ep us a n c 52).below (Below.nw _ (.cells #[.int .i64 0, .int .i64 0, .slice none 0 0] 52))
  have R := Bx3.new (w.alloc (.cells #[.int .i64 ep, .int .i64 us, .slice a n c] 52)) (.int .i64 0) (.int .i64 0) (.slice none 0 0) 52
  have B := (Below.nw w (.cells #[.int .i64 ep, .int .i64 us, .slice a n c] 52)).trans ((Below.nw (w.alloc (.cells #[.int .i64 ep, .int .i64 us, .slice a n c] 52)) (.cells #[.int .i64 0, .int .i64 0, .slice none 0 0] 52)).mono (by simp))
  simp only [World.size_alloc] at R
  have C := bookOf_any ep us a n c M _ hm (hf.below B) hw
  clear hf hw
  go_enter Tryz.func137, Tryz.ntmps137
  go_upto_region 1 with fail
  generalize (w.alloc (.cells #[.int .i64 ep, .int .i64 us, .slice a n c] 52)).alloc (.cells #[.int .i64 0, .int .i64 0, .slice none 0 0] 52) = wa at *
  have hJ1 := R.1
  obtain ⟨n9, n0, n1, n2⟩ := id N
  go_wp2_with fail
  refine C.mono ?_
  rintro e wb ⟨V, rfl, hV0, hV1, hb⟩
  clear n9 n0 n1 n2 N
  replace R := R.below hb
  replace B := B.trans (hb.mono B.size)
  clear C
  obtain ⟨bm, rfl, hbm, MP⟩ := hV1 ht
  rw [ht]
  have hnums := tabB_nums ht
  have hok := tabB_tOk ht
  have hn16 := tabB_len' ht
  have HFA : Hid (FA (lkK M n) M n) := FA.lk (tOk_asc hok)
  have HEL : Hid (∀ j, j < n → (M j).1 < ep * 1000 + us) := fun j hj => el_lt hok hj
  clear hV0 hV1 hok
  have A2 := Below.nw wb (.cells #[.int .i64 ep, .int .i64 us, .map (some bm)] 232)
  have X := Bx3.new wb (.int .i64 ep) (.int .i64 us) (.map (some bm)) 232
  have hmb : bm < wb.heap.size := MP.lt
  have hab := hb.size
  replace R := R.below A2
  replace MP := MP.below A2
  replace B := B.trans (A2.mono B.size)
  have hzs := A2.size
  clear A2 hb
  go_upto_region 2 with fail
  generalize hbx : wb.heap.size = bx at *
  generalize wb.alloc (.cells #[.int .i64 ep, .int .i64 us, .map (some bm)] 232) = wz at *
  have HFB : Hid (FA (fun q => if q = nn then some (kT nn x y 1) else lkK M n q) (addG M n (kT nn x y 1)) (n + 1)) := HFA.out.add rfl (fun j hj => by rw [← hnn]; exact HEL.out j hj)
  have HLEN : Hid (∀ ty, (Builtin.len_ #[230] ty #[.map (some bm)]).run Tryz.prog wz = .ok (.int .i64 (n : Int)) wz) := fun ty => MP.len HFA.out ty
  obtain ⟨x0, x1, x2, x3, -, -, -⟩ := id X
  go_wp2_with fail
  refine (isNode_any _ _).mono ?_
  rintro e w' ⟨rfl, rfl⟩
  rw [h1]
  go_wp2_with fail
  refine (isTime_any5 _ _).mono ?_
  rintro e w' ⟨rfl, rfl⟩
  rw [h2]
  have hlen := HLEN.out
  clear ht
  go_upto_region 8 with fail
  clear x0 x1 x2 x3 HLEN hlen hu1 hl1
  go_wp2_with fail
  refine (ask_yes bx bm n wa.heap.size ep us x y 1 nn _ _ X MP (by omega) (by omega) (by omega) (by omega) hnums.1 (by omega) (by omega) hnn).mono ?_
  rintro e w5 ⟨rfl, X5, MP5, hb5⟩
  clear hnums hnn hu h16
  replace R : Bx3 w5 (w.heap.size + 1) (.int .i64 0) (.int .i64 0) (.slice none 0 0) := by
    obtain ⟨h0, c0, c1, c2, f0, f1, f2⟩ := R
    exact ⟨Nat.lt_of_lt_of_le h0 hb5.size, by rw [hb5.cell (p := ⟨w.heap.size + 1, 0, none⟩) hJ1]; exact c0, by rw [hb5.cell (p := ⟨w.heap.size + 1, 1, none⟩) hJ1]; exact c1, by rw [hb5.cell (p := ⟨w.heap.size + 1, 2, none⟩) hJ1]; exact c2, by rw [hb5.frozen (p := ⟨w.heap.size + 1, 0, none⟩) hJ1]; exact f0, by rw [hb5.frozen (p := ⟨w.heap.size + 1, 1, none⟩) hJ1]; exact f1, by rw [hb5.frozen (p := ⟨w.heap.size + 1, 2, none⟩) hJ1]; exact f2⟩
  replace B := B.trans (hb5.mono (by omega))
  have hw5 : w.heap.size + 1 < w5.heap.size := R.1
  clear hb5 X MP
  have A5 := Below.nw w5 (.cells #[.int .i64 nn, .int .i64 x, .int .i64 y, .int .i64 1] 125)
  have Kx := Bf4.new w5 nn x y 1 125
  replace R := R.below A5
  replace X5 := X5.below A5
  replace MP5 := MP5.below A5
  replace B := B.trans (A5.mono B.size)
  have hs5 := A5.size
  clear A5
  go_upto_region 9 with fail
  generalize hbk : w5.heap.size = bk at *
  generalize w5.alloc (.cells #[.int .i64 nn, .int .i64 x, .int .i64 y, .int .i64 1] 125) = w7 at *
  obtain ⟨⟨k0, k1, k2, k3, k4⟩, -, -, -, -⟩ := id Kx
  refine wp_region_held_drew (S := (fun w' => w'.cell? ⟨bk, 0, none⟩ = some (.int .i64 nn))) (by kernel_rfl) ?_ (fun hHeld => ?_)
  · first | exact k1 | (simp (maxDischargeDepth := 6) [go_sem, *]; done)
  clear k0 k1 k2 k3 k4
  replace X5 := X5.drew
  replace MP5 := MP5.drew
  replace R := R.drew
  replace Kx := Kx.drew
  replace B := Below.drew B
  generalize w7.drew = w8 at *
  obtain ⟨⟨k0, k1, k2, k3, k4⟩, -, -, -, -⟩ := id Kx
  refine zTk 1 ?_
  (try simp only [Act.put, zSb, zS0, zS1])
  refine zTk 2 ?_
  (try simp only [Act.put, zSb, zS0, zS1])
  refine wpAnyH_ready (rs := [0]) (by kernel_rfl) (by simp) ?_
  refine (AllReadyH.cons (by rw [List.getElem?_toArray]; rfl) (fun K hK => ?_) AllReadyH.nil)
  go_simp
  refine (table_any bx bm (n + 1) (n + 1) ep (us + 1) _ (addG M n (kT nn x y 1)) _ X5 MP5 (by omega) HFB.out).mono ?_; rintro e w9 ⟨a', c', rfl, OW, hb⟩; (have hw56 : w.heap.size ≤ w8.heap.size := B.size); (have hw57 : w.heap.size + 1 < w8.heap.size := R.1); (replace R := R.below hb); clear k0 k1 k2 k3 k4; (replace Kx := Kx.below hb); (replace B := B.trans (hb.mono B.size)); clear hb X5 MP5; (obtain ⟨⟨k0, k1, k2, k3, k4⟩, -, -, -, -⟩ := id Kx); (obtain ⟨r0, r1, r2, r3, r4, r5, r6⟩ := id R)
  (try go_wp2_with fail)
  refine hK.out _ _ ?_ (fun hHeld => ?_)
  · first | exact k1 | (simp (maxDischargeDepth := 6) [go_sem, *]; done)
  clear hK K
  (try simp only [Act.put, zSb, zS0, zS1])
  refine wpAnyH_ready (rs := [3]) (by kernel_rfl) (by simp) ?_
  refine (AllReadyH.cons (by rw [List.getElem?_toArray]; rfl) (fun K hK => ?_) AllReadyH.nil)
  go_simp
  refine hK.out _ _ ?_ (fun hHeld => ?_)
  · first | exact k1 | (simp (maxDischargeDepth := 6) [go_sem, *]; done)
  clear hK K
  (try simp only [Act.put, zSb, zS0, zS1])
  refine zTk 4 ?_
  (try simp only [Act.put, zSb, zS0, zS1])
  refine zTk 5 ?_
  (try simp only [Act.put, zSb, zS0, zS1])
  refine wpAnyH_done (by kernel_rfl) ?_ _
  clear r0 r1 r2 r3 r4 r5 r6 k0 k1 k2 k3 k4
  have RQ := R.set (.int .i64 ep) (.int .i64 (us + 1)) (.slice a' (n + 1) c')
  have PB := put3_butK w9 (w.heap.size + 1) (.int .i64 ep) (.int .i64 (us + 1)) (.slice a' (n + 1) c')
  have BQ := B.trans (PB.below (B := w.heap.size) (by omega) B.size)
  have OQ := ownK_le (base' := w.heap.size) (own_butK OW PB (by omega)) hw56
  obtain ⟨r0, r1, r2, r3, r4, r5, r6⟩ := R
  clear PB
  go_wp2_with fail
  generalize (((w9.setCell ⟨w.heap.size + 1, 0, none⟩ (.int .i64 ep)).setCell ⟨w.heap.size + 1, 1, none⟩ (.int .i64 (us + 1))).setCell ⟨w.heap.size + 1, 2, none⟩ (.slice a' (n + 1) c')) = wq at *
  obtain ⟨q0, q1, q2, q3, q4, q5, q6⟩ := RQ
  exact bodyPost_ret (v := .tuple #[.agg #[.int .i64 ep, .int .i64 (us + 1), .slice a' (n + 1) c'], .int .i64 nn, .int .i64 0]) (by simp (maxDischargeDepth := 6) [results, Tryz.results137, go_sem, q1, q2, q3]) rfl ⟨_, _, rfl, OQ, BQ⟩
end Go.Proofs.YtgempaoamamaeaaGreat
