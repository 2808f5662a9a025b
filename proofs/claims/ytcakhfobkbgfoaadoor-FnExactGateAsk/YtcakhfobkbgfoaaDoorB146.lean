/- SlotAt and InSlot in the program. -/
import Derived.Test.YtcakhfobkbgfoaaDoorB145
import Derived.Test.YtcakhfobkbgfoaaDoorB136
import Derived.Deep.RegionHeld3
import Derived.WalkKit
import Derived.WalkSpells
import Derived.WalkLawsBesides
import Derived.Deep.RegionHeld
namespace Go.Proofs.YtcakhfobkbgfoaaDoor
open Go.RowKit
set_option linter.unusedVariables false
/- The slot and the round at a time, in the program. -/
def sqP (s g : Int) (M : Nat → SlT) (n : Nat) (t : Int) (j : Nat) : Bool := okI (ocF s g M n j (raI s g M n t)) (ocF s g M n j (raI s g M n t) + (M j).2) && (decide (ocF s g M n j (raI s g M n t) ≤ t) && decide (t < ocF s g M n j (raI s g M n t) + (M j).2))
theorem fnd_congr {P Q : Nat → Bool} {n : Nat} (h : ∀ j, j < n → P j = Q j) : ∀ j, j ≤ n → fnd P j = fnd Q j
  | 0, _ => rfl
  | j + 1, hj => by rw [fnd, fnd, fnd_congr h j (by omega), h j (by omega)]
theorem fnd_all {P : Nat → Bool} {n : Nat} (h : ∀ j, j < n → P j = false) : ∀ j, j ≤ n → fnd P j = j
  | 0, _ => rfl
  | j + 1, hj => fnd_miss (fnd_all h j (by omega)) (h j (by omega))
theorem sqP_is {s g : Int} {M : Nat → SlT} {n : Nat} {t : Int} (hp : plB s g M n = true) (hst : s ≤ t) {j : Nat} (hj : j < n) : saP s g M n t j = sqP s g M n t j := by
  obtain ⟨e1, e2, e3⟩ := oc_sel2 (k := raI s g M n t) hp hj (ra_zero hp)
  unfold saP sqP
  rw [ra_sa hst, e1, e2, e3]
  cases okI (ocF s g M n j (raI s g M n t)) (ocF s g M n j (raI s g M n t) + (M j).2) <;> rfl
theorem sqP_no {s g : Int} {M : Nat → SlT} {n : Nat} {t : Int} (hp : plB s g M n = true) (hst : t < s) {j : Nat} (hj : j < n) : sqP s g M n t j = false := by
  obtain ⟨p1, p2, p3, p4⟩ := plB_t hp
  have hr := rn_bd hp
  have hu := upS_bd p2 p4 j (by omega)
  have hk := Int.mul_nonneg (ra_zero (t := t) hp) (show 0 ≤ upS g M n by omega)
  have hlt : ¬ ocF s g M n j (raI s g M n t) ≤ t := by
    unfold ocF
    rw [Int.toNat_natCast]
    omega
  unfold sqP
  rw [decide_eq_false hlt]
  simp
theorem sq_none {s g : Int} {M : Nat → SlT} {n : Nat} {t : Int} (hp : plB s g M n = true) (h : fnd (sqP s g M n t) n = n) : saB s g M n t = false ∧ saI s g M n t = 0 ∧ saK s g M n t = 0 := by
  by_cases hst : s ≤ t
  · exact sa_none (by rw [fnd_congr (fun j hj => sqP_is hp hst hj) n (Nat.le_refl _)]; exact h)
  · exact sa_out (by unfold saG; rw [decide_eq_true (show t < s by omega)]; simp)
theorem sq_one {s g : Int} {M : Nat → SlT} {n : Nat} {t : Int} (hp : plB s g M n = true) (ht : okT t = true) {j : Nat} (h : fnd (sqP s g M n t) n = j) (hj : j < n) : saB s g M n t = true ∧ saI s g M n t = j ∧ saK s g M n t = raI s g M n t := by
  by_cases hst : s ≤ t
  · obtain ⟨e1, e2, e3⟩ := sa_one (show saG s g M n t = true by unfold saG; rw [hp, ht, decide_eq_false (show ¬ t < s by omega)]; rfl) (by rw [fnd_congr (fun j hj => sqP_is hp hst hj) n (Nat.le_refl _)]; exact h) hj
    exact ⟨e1, e2, e3.trans (ra_sa hst)⟩
  · exfalso
    have := fnd_all (P := sqP s g M n t) (fun j hj => sqP_no hp (show t < s by omega) hj) n (Nat.le_refl _)
    omega
set_option maxRecDepth 100000 in
set_option maxHeartbeats 8000000 in
theorem implSlotAt_any (s g : Int) (a : Option Addr) (n c : Nat) (M : Nat → SlT) (t : Int) (w : World) (hm : n ≤ maxLen) (hs : SrcC w a (n * 2) (MFSlot M)) :
    Calls Tryd.prog 114 #[.agg #[.int .i64 s, .int .i64 g, .slice a n c], .int .i64 t] w fun e w' => e = .returned (.tuple #[.int .i64 (saI s g M n t), .int .i64 (saK s g M n t), .bool (saB s g M n t)]) ∧ Below w.heap.size w w' := by
  have B := Below.nw w (.cells #[.int .i64 s, .int .i64 g, .slice a n c] 30)
  have N := Tx3.new w (.int .i64 s) (.int .i64 g) (.slice a n c) 30
  have HS : Hid (SrcC w a (n * 2) (MFSlot M)) := hs
  clear hs
  have C1 := fun w' h => planOk_any s g a n c M w' hm h
  have CT := fun w' => isTime_any t w'
  cases h1 : plB s g M n
  · obtain ⟨e1, e2, e3⟩ := sa_out (t := t) (show saG s g M n t = false by unfold saG; rw [h1]; rfl)
    rw [e1, e2, e3]
    rw [h1] at C1
    clear e1 e2 e3
    go_enter Tryd.func114, Tryd.ntmps114
    go_upto_region 1 with fail
    generalize w.alloc (.cells #[.int .i64 s, .int .i64 g, .slice a n c] 30) = v at *
    obtain ⟨n0, n1, n2, n3, n4, n5, n6⟩ := id N
    go_wp2_with fail
    refine (C1 _ (HS.out.below B)).mono ?_
    rintro e v1 ⟨rfl, hb⟩
    clear n0 n1 n2 n3 n4 n5 n6
    replace B := B.trans (hb.mono B.size)
    replace N := N.below hb
    clear hb
    go_wp2_with fail
    exact bodyPost_ret (v := (.tuple #[.int .i64 0, .int .i64 0, .bool false])) (by simp (maxDischargeDepth := 6) [results, Tryd.results114, go_sem, *]) rfl ⟨rfl, B⟩
  cases h2 : okT t
  · obtain ⟨e1, e2, e3⟩ := sa_out (show saG s g M n t = false by unfold saG; rw [h1, h2]; rfl)
    rw [e1, e2, e3]
    rw [h1] at C1
    clear e1 e2 e3
    go_enter Tryd.func114, Tryd.ntmps114
    go_upto_region 1 with fail
    generalize w.alloc (.cells #[.int .i64 s, .int .i64 g, .slice a n c] 30) = v at *
    obtain ⟨n0, n1, n2, n3, n4, n5, n6⟩ := id N
    go_wp2_with fail
    refine (C1 _ (HS.out.below B)).mono ?_
    rintro e v1 ⟨rfl, hb⟩
    clear n0 n1 n2 n3 n4 n5 n6
    replace B := B.trans (hb.mono B.size)
    replace N := N.below hb
    clear hb
    go_wp2_with fail
    refine (CT _).mono ?_
    rintro e w' ⟨rfl, rfl⟩
    rw [h2]
    go_wp2_with fail
    exact bodyPost_ret (v := (.tuple #[.int .i64 0, .int .i64 0, .bool false])) (by simp (maxDischargeDepth := 6) [results, Tryd.results114, go_sem, *]) rfl ⟨rfl, B⟩
  have ht : 0 ≤ t ∧ t ≤ 1000000000000 := by unfold okT at h2; simpa using h2
  obtain ⟨p1, p2, p3, p4⟩ := plB_t h1
  have CA := fun w' h => roundAt_any s g a n c M t w' h1 ht h
  have CD := fun w' h => rounds1_any s g a n c M (raI s g M n t) w' h1 (ra_kOk h1 ht (ra_zero h1) (Int.le_refl _)) h
  have CK := fun (x y : Int) w' => ok_any x y w'
  have HP : Hid (∀ j : Nat, sqP s g M n t j = (okI (ocF s g M n j (raI s g M n t)) (ocF s g M n j (raI s g M n t) + (M j).2) && (decide (ocF s g M n j (raI s g M n t) ≤ t) && decide (t < ocF s g M n j (raI s g M n t) + (M j).2)))) := fun j => rfl
  have H0 : Hid (fnd (sqP s g M n t) n = n → saB s g M n t = false ∧ saI s g M n t = 0 ∧ saK s g M n t = 0) := sq_none h1
  have H1 : Hid (∀ j, fnd (sqP s g M n t) n = j → j < n → saB s g M n t = true ∧ saI s g M n t = j ∧ saK s g M n t = raI s g M n t) := fun j h hj => sq_one h1 h2 h hj
  have hn2 : n ≤ 12 := p3.2
  rw [h1] at C1
  clear p1 p2 p3 p4 h1 ht hm
  generalize sqP s g M n t = P at *
  generalize raI s g M n t = K at *
  go_enter Tryd.func114, Tryd.ntmps114
  go_upto_region 1 with fail
  generalize w.alloc (.cells #[.int .i64 s, .int .i64 g, .slice a n c] 30) = v at *
  obtain ⟨n0, n1, n2, n3, n4, n5, n6⟩ := id N
  go_wp2_with fail
  refine (C1 _ (HS.out.below B)).mono ?_
  rintro e v1 ⟨rfl, hb⟩
  clear n0 n1 n2 n3 n4 n5 n6
  replace B := B.trans (hb.mono B.size)
  replace N := N.below hb
  clear hb
  go_wp2_with fail
  refine (CT _).mono ?_
  rintro e w' ⟨rfl, rfl⟩
  rw [h2]
  clear C1 CT h2
  obtain ⟨n0, n1, n2, n3, n4, n5, n6⟩ := id N
  go_wp2_with fail
  refine (CA _ (HS.out.below B)).mono ?_
  rintro e v2 ⟨rfl, hb⟩
  clear n0 n1 n2 n3 n4 n5 n6
  replace B := B.trans (hb.mono B.size)
  replace N := N.below hb
  clear hb
  clear CA
  obtain ⟨n0, n1, n2, n3, n4, n5, n6⟩ := id N
  go_wp2_with fail
  refine (CD _ (HS.out.below B)).mono ?_
  rintro e v3 ⟨b1, b2, rfl, y1, RO, hb⟩
  clear n0 n1 n2 n3 n4 n5 n6
  replace B := B.trans (hb.mono B.size)
  replace N := N.below hb
  clear hb
  clear CD
  go_wp2_with fail
  go_loopw [27] (fun i wr => ∃ (j : Nat), j ≤ n ∧ i = .int .i64 j ∧ fnd P j = j ∧ OcRow wr b1 0 s g M n K ∧ Tx3 wr w.heap.size (.int .i64 s) (.int .i64 g) (.slice a n c) ∧ Below w.heap.size w wr) (fun i _ => n - (intOf i).toNat)
  case atStart => exact ⟨0, Nat.zero_le _, rfl, rfl, RO, N, B⟩
  case round =>
    clear N B RO y1
    obtain ⟨j, hj, rfl, hF, RO, N, B⟩ := hrel
    by_cases hlt : j < n
    · have hli : (j : Int) < (n : Int) := by omega
      have HLT : Hid (j < n) := hlt
      have HF : Hid (fnd P j = j) := hF
      have HJ := HP.out j
      obtain ⟨y2, y3⟩ := RO.2 j hlt
      rw [Nat.zero_add] at y2 y3
      generalize ocF s g M n j K = X at *
      generalize X + (M j).2 = Y at *
      have HJ : Hid (P j = (okI X Y && (decide (X ≤ t) && decide (t < Y)))) := HJ
      clear hF hlt hj
      have NL := Below.nw wr (.cells #[.int .i64 X, .int .i64 Y] 25)
      have Z := Bx2.new wr (.int .i64 X) (.int .i64 Y) 25
      go_upto_region 7 with fail
      replace B := B.trans (NL.mono B.size)
      replace N := N.below NL
      replace RO := RO.below' NL
      clear NL y2 y3
      generalize wr.alloc (.cells #[.int .i64 X, .int .i64 Y] 25) = w4 at *
      generalize wr.heap.size = jz at *
      obtain ⟨z0, z1, z2, z3, z4⟩ := id Z
      cases hQ : okI X Y
      · have HM : Hid (fnd P (j + 1) = j + 1) := fnd_miss HF.out (by rw [HJ.out, hQ]; rfl)
        go_wp2_with fail
        refine (CK _ _ _).mono ?_
        rintro e w5 ⟨rfl, hb⟩
        replace B := B.trans (hb.mono B.size)
        replace N := N.below hb
        replace RO := RO.below' hb
        replace Z := Z.below hb
        clear hb z0 z1 z2 z3 z4
        obtain ⟨z0, z1, z2, z3, z4⟩ := id Z
        rw [hQ]
        go_wp2_with fail
        go_roundw
        case rel => first | exact ⟨j + 1, HLT.out, by go_num, HM.out, RO, N, B⟩ | exact ⟨_, _, ⟨j + 1, HLT.out, rfl, HM.out⟩, rfl, by simp⟩
        case measure => have hlt' := HLT.out; simp [intOf]; omega
      by_cases hX : X ≤ t
      · by_cases hY : t < Y
        · have HM : Hid (fnd P n = j) := fnd_is HF.out (by rw [HJ.out, hQ, decide_eq_true hX, decide_eq_true hY]; rfl) HLT.out
          go_wp2_with fail
          refine (CK _ _ _).mono ?_
          rintro e w5 ⟨rfl, hb⟩
          replace B := B.trans (hb.mono B.size)
          replace N := N.below hb
          replace RO := RO.below' hb
          replace Z := Z.below hb
          clear hb z0 z1 z2 z3 z4
          obtain ⟨z0, z1, z2, z3, z4⟩ := id Z
          rw [hQ]
          go_wp2_with fail
          obtain ⟨e1, e2, e3⟩ := H1.out j HM.out HLT.out
          exact bodyPost_ret (v := (.tuple #[.int .i64 (j : Int), .int .i64 K, .bool true])) (by simp (maxDischargeDepth := 6) [results, Tryd.results114, go_sem, *]) rfl ⟨by rw [e1, e2, e3], B⟩
        · have HM : Hid (fnd P (j + 1) = j + 1) := fnd_miss HF.out (by rw [HJ.out, decide_eq_false hY]; simp)
          go_wp2_with fail
          refine (CK _ _ _).mono ?_
          rintro e w5 ⟨rfl, hb⟩
          replace B := B.trans (hb.mono B.size)
          replace N := N.below hb
          replace RO := RO.below' hb
          replace Z := Z.below hb
          clear hb z0 z1 z2 z3 z4
          obtain ⟨z0, z1, z2, z3, z4⟩ := id Z
          rw [hQ]
          go_wp2_with fail
          go_roundw
          case rel => first | exact ⟨j + 1, HLT.out, by go_num, HM.out, RO, N, B⟩ | exact ⟨_, _, ⟨j + 1, HLT.out, rfl, HM.out⟩, rfl, by simp⟩
          case measure => have hlt' := HLT.out; simp [intOf]; omega
      · have HM : Hid (fnd P (j + 1) = j + 1) := fnd_miss HF.out (by rw [HJ.out, decide_eq_false hX]; simp)
        go_wp2_with fail
        refine (CK _ _ _).mono ?_
        rintro e w5 ⟨rfl, hb⟩
        replace B := B.trans (hb.mono B.size)
        replace N := N.below hb
        replace RO := RO.below' hb
        replace Z := Z.below hb
        clear hb z0 z1 z2 z3 z4
        obtain ⟨z0, z1, z2, z3, z4⟩ := id Z
        rw [hQ]
        go_wp2_with fail
        go_roundw
        case rel => first | exact ⟨j + 1, HLT.out, by go_num, HM.out, RO, N, B⟩ | exact ⟨_, _, ⟨j + 1, HLT.out, rfl, HM.out⟩, rfl, by simp⟩
        case measure => have hlt' := HLT.out; simp [intOf]; omega
    · have hkn : j = n := by omega
      subst hkn
      have hli : ¬ (j : Int) < (j : Int) := by omega
      have HF : Hid (fnd P j = j) := hF
      clear hF
      go_wp2_with fail
      obtain ⟨e1, e2, e3⟩ := H0.out HF.out
      exact bodyPost_ret (v := (.tuple #[.int .i64 0, .int .i64 0, .bool false])) (by simp (maxDischargeDepth := 6) [results, Tryd.results114, go_sem, *]) rfl ⟨by rw [e1, e2, e3], B⟩

set_option maxRecDepth 100000 in
set_option maxHeartbeats 8000000 in
theorem implInSlot_any (s g : Int) (a : Option Addr) (n c : Nat) (M : Nat → SlT) (o f t : Int) (w : World) (hm : n ≤ maxLen) (hs : SrcC w a (n * 2) (MFSlot M)) :
    Calls Tryd.prog 105 #[.agg #[.int .i64 s, .int .i64 g, .slice a n c], .int .i64 o, .int .i64 f, .int .i64 t] w fun e w' => e = .returned (.tuple #[.int .i64 (isI s g M n o f t), .int .i64 (isK s g M n o f t), .bool (isB s g M n o f t)]) ∧ Below w.heap.size w w' := by
  have B := Below.nw w (.cells #[.int .i64 s, .int .i64 g, .slice a n c] 30)
  have N := Tx3.new w (.int .i64 s) (.int .i64 g) (.slice a n c) 30
  have HS : Hid (SrcC w a (n * 2) (MFSlot M)) := hs
  clear hs
  have C1 := fun w' h => implSlotAt_any s g a n c M f w' hm h
  cases h1 : saB s g M n f
  · have hB : isB s g M n o f t = false := by unfold isB; rw [h1]; rfl
    rw [(is_no hB).1, (is_no hB).2, hB]
    rw [h1, (sa_no h1).1, (sa_no h1).2] at C1
    clear hB
    go_enter Tryd.func105, Tryd.ntmps105
    go_upto_region 1 with fail
    generalize w.alloc (.cells #[.int .i64 s, .int .i64 g, .slice a n c] 30) = v at *
    obtain ⟨n0, n1, n2, n3, n4, n5, n6⟩ := id N
    go_wp2_with fail
    refine (C1 _ (HS.out.below B)).mono ?_
    rintro e v1 ⟨rfl, hb⟩
    clear n0 n1 n2 n3 n4 n5 n6
    replace B := B.trans (hb.mono B.size)
    replace N := N.below hb
    clear hb
    obtain ⟨n0, n1, n2, n3, n4, n5, n6⟩ := id N
    go_wp2_with fail
    exact bodyPost_ret (v := (.tuple #[.int .i64 0, .int .i64 0, .bool false])) (by simp (maxDischargeDepth := 6) [results, Tryd.results105, go_sem, *]) rfl ⟨rfl, B⟩
  obtain ⟨y1, y2, y3, y4⟩ := sa_yes h1
  have CO := fun w' h => implOccurrence_any s g a n c M (saI s g M n f) (saK s g M n f) w' hm h
  have hiN : (saI s g M n f).toNat < n := by rw [y1]; omega
  have hiE : saI s g M n f = ((saI s g M n f).toNat : Int) := by rw [y1]; omega
  have LK : Hid (∀ w', SrcC w' a (n * 2) (MFSlot M) → ∃ b off, a = some ⟨b, off, none⟩ ∧ w'.cell? ⟨b, off + (saI s g M n f).toNat * 2, none⟩ = some (.int .i64 (M (saI s g M n f).toNat).1) ∧ w'.cell? ⟨b, off + (saI s g M n f).toNat * 2 + 1, none⟩ = some (.int .i64 (M (saI s g M n f).toNat).2)) := fun w' h => by
    rcases h with q | ⟨b, off, e, hc⟩
    · exact absurd q (by omega)
    · exact ⟨b, off, e, hc.elSlot hiN rfl⟩
  have HB : isB s g M n o f t = (((M (saI s g M n f).toNat).1 == o) && (!decide (t < f) && !decide (ocH s g M n (saI s g M n f) (saK s g M n f) < t))) := by unfold isB; rw [h1]; rfl
  rw [h1] at C1
  have HI : Hid (((saI s g M n f).toNat : Int) < (n : Int)) := by rw [Hid]; omega
  have H0 : Hid (isB s g M n o f t = false → isI s g M n o f t = 0 ∧ isK s g M n o f t = 0) := is_no
  have H1 : Hid (isB s g M n o f t = true → isI s g M n o f t = saI s g M n f ∧ isK s g M n o f t = saK s g M n f) := is_yes
  clear y1 y2 y3 y4 h1 hiN
  generalize isI s g M n o f t = AI at *
  generalize isK s g M n o f t = AK at *
  generalize isB s g M n o f t = AB at *
  generalize ocL s g M n (saI s g M n f) (saK s g M n f) = X at *
  generalize ocH s g M n (saI s g M n f) (saK s g M n f) = Y at *
  generalize ocB s g M n (saI s g M n f) (saK s g M n f) = Q at *
  generalize saK s g M n f = K at *
  generalize hS : saI s g M n f = I at *
  clear hS
  generalize I.toNat = iN at *
  subst hiE
  generalize (M iN).1 = ow at *
  generalize (M iN).2 = lg at *
  have hli := HI.out
  cases ho : (ow == o)
  · have hne : (ow != o) = true := by rw [bne, ho]; rfl
    have e0 : AB = false := by rw [HB, ho]; rfl
    subst e0
    obtain ⟨rfl, rfl⟩ := H0.out rfl
    clear HB H0 H1 ho
    go_enter Tryd.func105, Tryd.ntmps105
    go_upto_region 1 with fail
    generalize w.alloc (.cells #[.int .i64 s, .int .i64 g, .slice a n c] 30) = v at *
    obtain ⟨n0, n1, n2, n3, n4, n5, n6⟩ := id N
    go_wp2_with fail
    refine (C1 _ (HS.out.below B)).mono ?_
    rintro e v1 ⟨rfl, hb⟩
    clear n0 n1 n2 n3 n4 n5 n6
    replace B := B.trans (hb.mono B.size)
    replace N := N.below hb
    clear hb
    obtain ⟨b, off, rfl, c1, c2⟩ := LK.out v1 (HS.out.below B)
    clear LK HS
    obtain ⟨n0, n1, n2, n3, n4, n5, n6⟩ := id N
    go_wp2_with fail
    exact bodyPost_ret (v := (.tuple #[.int .i64 0, .int .i64 0, .bool false])) (by simp (maxDischargeDepth := 6) [results, Tryd.results105, go_sem, *]) rfl ⟨rfl, B⟩
  have hne : (ow != o) = false := by rw [bne, ho]; rfl
  by_cases h3 : t < f
  · have e0 : AB = false := by rw [HB, decide_eq_true h3]; simp
    subst e0
    obtain ⟨rfl, rfl⟩ := H0.out rfl
    clear HB H0 H1 ho
    go_enter Tryd.func105, Tryd.ntmps105
    go_upto_region 1 with fail
    generalize w.alloc (.cells #[.int .i64 s, .int .i64 g, .slice a n c] 30) = v at *
    obtain ⟨n0, n1, n2, n3, n4, n5, n6⟩ := id N
    go_wp2_with fail
    refine (C1 _ (HS.out.below B)).mono ?_
    rintro e v1 ⟨rfl, hb⟩
    clear n0 n1 n2 n3 n4 n5 n6
    replace B := B.trans (hb.mono B.size)
    replace N := N.below hb
    clear hb
    obtain ⟨b, off, rfl, c1, c2⟩ := LK.out v1 (HS.out.below B)
    clear LK HS
    obtain ⟨n0, n1, n2, n3, n4, n5, n6⟩ := id N
    go_wp2_with fail
    exact bodyPost_ret (v := (.tuple #[.int .i64 0, .int .i64 0, .bool false])) (by simp (maxDischargeDepth := 6) [results, Tryd.results105, go_sem, *]) rfl ⟨rfl, B⟩
  by_cases h4 : Y < t
  · have e0 : AB = false := by rw [HB, decide_eq_true h4]; simp
    subst e0
    obtain ⟨rfl, rfl⟩ := H0.out rfl
    clear HB H0 H1 ho
    go_enter Tryd.func105, Tryd.ntmps105
    go_upto_region 1 with fail
    generalize w.alloc (.cells #[.int .i64 s, .int .i64 g, .slice a n c] 30) = v at *
    obtain ⟨n0, n1, n2, n3, n4, n5, n6⟩ := id N
    go_wp2_with fail
    refine (C1 _ (HS.out.below B)).mono ?_
    rintro e v1 ⟨rfl, hb⟩
    clear n0 n1 n2 n3 n4 n5 n6
    replace B := B.trans (hb.mono B.size)
    replace N := N.below hb
    clear hb
    obtain ⟨b, off, rfl, c1, c2⟩ := LK.out v1 (HS.out.below B)
    clear LK
    obtain ⟨n0, n1, n2, n3, n4, n5, n6⟩ := id N
    go_wp2_with fail
    refine (CO _ (HS.out.below B)).mono ?_
    rintro e v2 ⟨rfl, hb⟩
    clear n0 n1 n2 n3 n4 n5 n6
    replace B := B.trans (hb.mono B.size)
    replace N := N.below hb
    clear hb
    clear c1 c2
    have NL := Below.nw v2 (.cells #[.int .i64 X, .int .i64 Y] 25)
    have Z := Bx2.new v2 (.int .i64 X) (.int .i64 Y) 25
    go_upto_region 5 with fail
    replace B := B.trans (NL.mono B.size)
    clear NL
    generalize v2.alloc (.cells #[.int .i64 X, .int .i64 Y] 25) = v3 at *
    generalize v2.heap.size = jz at *
    obtain ⟨z0, z1, z2, z3, z4⟩ := id Z
    go_wp2_with fail
    exact bodyPost_ret (v := (.tuple #[.int .i64 0, .int .i64 0, .bool false])) (by simp (maxDischargeDepth := 6) [results, Tryd.results105, go_sem, *]) rfl ⟨rfl, B⟩
  have e0 : AB = true := by rw [HB, ho, decide_eq_false h3, decide_eq_false h4]; rfl
  subst e0
  obtain ⟨rfl, rfl⟩ := H1.out rfl
  clear HB H0 H1 ho
  go_enter Tryd.func105, Tryd.ntmps105
  go_upto_region 1 with fail
  generalize w.alloc (.cells #[.int .i64 s, .int .i64 g, .slice a n c] 30) = v at *
  obtain ⟨n0, n1, n2, n3, n4, n5, n6⟩ := id N
  go_wp2_with fail
  refine (C1 _ (HS.out.below B)).mono ?_
  rintro e v1 ⟨rfl, hb⟩
  clear n0 n1 n2 n3 n4 n5 n6
  replace B := B.trans (hb.mono B.size)
  replace N := N.below hb
  clear hb
  obtain ⟨b, off, rfl, c1, c2⟩ := LK.out v1 (HS.out.below B)
  clear LK
  obtain ⟨n0, n1, n2, n3, n4, n5, n6⟩ := id N
  go_wp2_with fail
  refine (CO _ (HS.out.below B)).mono ?_
  rintro e v2 ⟨rfl, hb⟩
  clear n0 n1 n2 n3 n4 n5 n6
  replace B := B.trans (hb.mono B.size)
  replace N := N.below hb
  clear hb
  clear c1 c2
  have NL := Below.nw v2 (.cells #[.int .i64 X, .int .i64 Y] 25)
  have Z := Bx2.new v2 (.int .i64 X) (.int .i64 Y) 25
  go_upto_region 5 with fail
  replace B := B.trans (NL.mono B.size)
  clear NL
  generalize v2.alloc (.cells #[.int .i64 X, .int .i64 Y] 25) = v3 at *
  generalize v2.heap.size = jz at *
  obtain ⟨z0, z1, z2, z3, z4⟩ := id Z
  go_wp2_with fail
  exact bodyPost_ret (v := (.tuple #[.int .i64 (iN : Int), .int .i64 AK, .bool true])) (by simp (maxDischargeDepth := 6) [results, Tryd.results105, go_sem, *]) rfl ⟨rfl, B⟩
end Go.Proofs.YtcakhfobkbgfoaaDoor
