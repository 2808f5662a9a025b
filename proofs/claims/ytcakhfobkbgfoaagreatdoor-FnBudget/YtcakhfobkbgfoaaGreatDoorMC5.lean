/- SlotAt and InSlot in the program. Contracts of the program's CarryOn. The gate in the program: its faults, its place, what it answers; GateWait. -/
import Derived.Test.YtcakhfobkbgfoaaGreatDoorMC4
import Derived.Deep.RegionHeld3
import Derived.WalkKit
import Derived.WalkSpells
import Derived.WalkLawsBesides
import Derived.Deep.RegionHeld
import Derived.Test.YtcakhfobkbgfoaaGreatDoorMC2
import Derived.Deep.DeepCutAuto
import Derived.Test.YtcakhfobkbgfoaaGreatDoorMC3
import Derived.Test.YtcakhfobkbgfoaaGreatDoorMC1
namespace Go.Proofs.YtcakhfobkbgfoaaGreatDoor
open Go.RowKit
set_option linter.unusedVariables false
/- The slot and the round at a time, in the program. -/
def sqP (s g : Int) (M : Nat → SlT) (n : Nat) (t : Int) (j : Nat) : Bool := okI (ocF s g M n j (raI s g M n t)) (ocF s g M n j (raI s g M n t) + (M j).2) && (decide (ocF s g M n j (raI s g M n t) ≤ t) && decide (t < ocF s g M n j (raI s g M n t) + (M j).2))
theorem fnd_congr {P Q : Nat → Bool} {n : Nat} (h : ∀ j, j < n → P j = Q j) : ∀ j, j ≤ n → fnd P j = fnd Q j
  | 0, _ => rfl
  | j + 1, hj => by rw [fnd, fnd, fnd_congr h j (by omega), h j (by omega)]
theorem fnd_all {P : Nat → Bool} {n : Nat} (h : ∀ j, j < n → P j = false) : ∀ j, j ≤ n → fnd P j = j
  | 0, _ => rfl
  | j + 1, hj => fnd_miss (fnd_all h j (by omega)) (h j (by omega))
theorem sqP_is {s g : Int} {M : Nat → SlT} {n : Nat} {t : Int} (hp : plB s g M n = true) (hst : s ≤ t) {j : Nat} (hj : j < n) : saP s g M n t j = sqP s g M n t j := by
  obtain ⟨e1, e2, e3⟩ := oc_sel2 (k := raI s g M n t) hp hj (ra_zero hp)
  unfold saP sqP
  rw [ra_sa hst, e1, e2, e3]
  cases okI (ocF s g M n j (raI s g M n t)) (ocF s g M n j (raI s g M n t) + (M j).2) <;> rfl
theorem sqP_no {s g : Int} {M : Nat → SlT} {n : Nat} {t : Int} (hp : plB s g M n = true) (hst : t < s) {j : Nat} (hj : j < n) : sqP s g M n t j = false := by
  obtain ⟨p1, p2, p3, p4⟩ := plB_t hp
  have hr := rn_bd hp
  have hu := upS_bd p2 p4 j (by omega)
  have hk := Int.mul_nonneg (ra_zero (t := t) hp) (show 0 ≤ upS g M n by omega)
  have hlt : ¬ ocF s g M n j (raI s g M n t) ≤ t := by
    unfold ocF
    rw [Int.toNat_natCast]
    omega
  unfold sqP
  rw [decide_eq_false hlt]
  simp
theorem sq_none {s g : Int} {M : Nat → SlT} {n : Nat} {t : Int} (hp : plB s g M n = true) (h : fnd (sqP s g M n t) n = n) : saB s g M n t = false ∧ saI s g M n t = 0 ∧ saK s g M n t = 0 := by
  by_cases hst : s ≤ t
  · exact sa_none (by rw [fnd_congr (fun j hj => sqP_is hp hst hj) n (Nat.le_refl _)]; exact h)
  · exact sa_out (by unfold saG; rw [decide_eq_true (show t < s by omega)]; simp)
theorem sq_one {s g : Int} {M : Nat → SlT} {n : Nat} {t : Int} (hp : plB s g M n = true) (ht : okT t = true) {j : Nat} (h : fnd (sqP s g M n t) n = j) (hj : j < n) : saB s g M n t = true ∧ saI s g M n t = j ∧ saK s g M n t = raI s g M n t := by
  by_cases hst : s ≤ t
  · obtain ⟨e1, e2, e3⟩ := sa_one (show saG s g M n t = true by unfold saG; rw [hp, ht, decide_eq_false (show ¬ t < s by omega)]; rfl) (by rw [fnd_congr (fun j hj => sqP_is hp hst hj) n (Nat.le_refl _)]; exact h) hj
    exact ⟨e1, e2, e3.trans (ra_sa hst)⟩
  · exfalso
    have := fnd_all (P := sqP s g M n t) (fun j hj => sqP_no hp (show t < s by omega) hj) n (Nat.le_refl _)
    omega
set_option maxRecDepth 100000 in
set_option maxHeartbeats 8000000 in
theorem implSlotAt_any (s g : Int) (a : Option Addr) (n c : Nat) (M : Nat → SlT) (t : Int) (w : World) (hm : n ≤ maxLen) (hs : SrcC w a (n * 2) (MFSlot M)) :
    Calls Tryz.prog 91 #[.agg #[.int .i64 s, .int .i64 g, .slice a n c], .int .i64 t] w fun e w' => e = .returned (.tuple #[.int .i64 (saI s g M n t), .int .i64 (saK s g M n t), .bool (saB s g M n t)]) ∧ Below w.heap.size w w' := by
  have B := Below.nw w (.cells #[.int .i64 s, .int .i64 g, .slice a n c] 32)
  have N := Tx3.new w (.int .i64 s) (.int .i64 g) (.slice a n c) 32
  have HS : Hid (SrcC w a (n * 2) (MFSlot M)) := hs
  clear hs
  have C1 := fun w' h => planOk_any s g a n c M w' hm h
  have CT := fun w' => isTime_any t w'
  cases h1 : plB s g M n
  · obtain ⟨e1, e2, e3⟩ := sa_out (t := t) (show saG s g M n t = false by unfold saG; rw [h1]; rfl)
    rw [e1, e2, e3]
    rw [h1] at C1
    clear e1 e2 e3
    go_enter Tryz.func91, Tryz.ntmps91
    go_upto_region 1 with fail
    generalize w.alloc (.cells #[.int .i64 s, .int .i64 g, .slice a n c] 32) = v at *
    obtain ⟨n0, n1, n2, n3, n4, n5, n6⟩ := id N
    go_wp2_with fail
    refine (C1 _ (HS.out.below B)).mono ?_
    rintro e v1 ⟨rfl, hb⟩
    clear n0 n1 n2 n3 n4 n5 n6
    replace B := B.trans (hb.mono B.size)
    replace N := N.below hb
    clear hb
    go_wp2_with fail
    exact bodyPost_ret (v := (.tuple #[.int .i64 0, .int .i64 0, .bool false])) (by simp (maxDischargeDepth := 6) [results, Tryz.results91, go_sem, *]) rfl ⟨rfl, B⟩
  cases h2 : okT t
  · obtain ⟨e1, e2, e3⟩ := sa_out (show saG s g M n t = false by unfold saG; rw [h1, h2]; rfl)
    rw [e1, e2, e3]
    rw [h1] at C1
    clear e1 e2 e3
    go_enter Tryz.func91, Tryz.ntmps91
    go_upto_region 1 with fail
    generalize w.alloc (.cells #[.int .i64 s, .int .i64 g, .slice a n c] 32) = v at *
    obtain ⟨n0, n1, n2, n3, n4, n5, n6⟩ := id N
    go_wp2_with fail
    refine (C1 _ (HS.out.below B)).mono ?_
    rintro e v1 ⟨rfl, hb⟩
    clear n0 n1 n2 n3 n4 n5 n6
    replace B := B.trans (hb.mono B.size)
    replace N := N.below hb
    clear hb
    go_wp2_with fail
    refine (CT _).mono ?_
    rintro e w' ⟨rfl, rfl⟩
    rw [h2]
    go_wp2_with fail
    exact bodyPost_ret (v := (.tuple #[.int .i64 0, .int .i64 0, .bool false])) (by simp (maxDischargeDepth := 6) [results, Tryz.results91, go_sem, *]) rfl ⟨rfl, B⟩
  have ht : 0 ≤ t ∧ t ≤ 1000000000000 := by unfold okT at h2; simpa using h2
  obtain ⟨p1, p2, p3, p4⟩ := plB_t h1
  have CA := fun w' h => roundAt_any s g a n c M t w' h1 ht h
  have CD := fun w' h => rounds1_any s g a n c M (raI s g M n t) w' h1 (ra_kOk h1 ht (ra_zero h1) (Int.le_refl _)) h
  have CK := fun (x y : Int) w' => ok_any x y w'
  have HP : Hid (∀ j : Nat, sqP s g M n t j = (okI (ocF s g M n j (raI s g M n t)) (ocF s g M n j (raI s g M n t) + (M j).2) && (decide (ocF s g M n j (raI s g M n t) ≤ t) && decide (t < ocF s g M n j (raI s g M n t) + (M j).2)))) := fun j => rfl
  have H0 : Hid (fnd (sqP s g M n t) n = n → saB s g M n t = false ∧ saI s g M n t = 0 ∧ saK s g M n t = 0) := sq_none h1
  have H1 : Hid (∀ j, fnd (sqP s g M n t) n = j → j < n → saB s g M n t = true ∧ saI s g M n t = j ∧ saK s g M n t = raI s g M n t) := fun j h hj => sq_one h1 h2 h hj
  have hn2 : n ≤ 12 := p3.2
  rw [h1] at C1
  clear p1 p2 p3 p4 h1 ht hm
  generalize sqP s g M n t = P at *
  generalize raI s g M n t = K at *
  go_enter Tryz.func91, Tryz.ntmps91
  go_upto_region 1 with fail
  generalize w.alloc (.cells #[.int .i64 s, .int .i64 g, .slice a n c] 32) = v at *
  obtain ⟨n0, n1, n2, n3, n4, n5, n6⟩ := id N
  go_wp2_with fail
  refine (C1 _ (HS.out.below B)).mono ?_
  rintro e v1 ⟨rfl, hb⟩
  clear n0 n1 n2 n3 n4 n5 n6
  replace B := B.trans (hb.mono B.size)
  replace N := N.below hb
  clear hb
  go_wp2_with fail
  refine (CT _).mono ?_
  rintro e w' ⟨rfl, rfl⟩
  rw [h2]
  clear C1 CT h2
  obtain ⟨n0, n1, n2, n3, n4, n5, n6⟩ := id N
  go_wp2_with fail
  refine (CA _ (HS.out.below B)).mono ?_
  rintro e v2 ⟨rfl, hb⟩
  clear n0 n1 n2 n3 n4 n5 n6
  replace B := B.trans (hb.mono B.size)
  replace N := N.below hb
  clear hb
  clear CA
  obtain ⟨n0, n1, n2, n3, n4, n5, n6⟩ := id N
  go_wp2_with fail
  refine (CD _ (HS.out.below B)).mono ?_
  rintro e v3 ⟨b1, b2, rfl, y1, RO, hb⟩
  clear n0 n1 n2 n3 n4 n5 n6
  replace B := B.trans (hb.mono B.size)
  replace N := N.below hb
  clear hb
  clear CD
  go_wp2_with fail
  go_loopw [27] (fun i wr => ∃ (j : Nat), j ≤ n ∧ i = .int .i64 j ∧ fnd P j = j ∧ OcRow wr b1 0 s g M n K ∧ Tx3 wr w.heap.size (.int .i64 s) (.int .i64 g) (.slice a n c) ∧ Below w.heap.size w wr) (fun i _ => n - (intOf i).toNat)
  case atStart => exact ⟨0, Nat.zero_le _, rfl, rfl, RO, N, B⟩
  case round =>
    clear N B RO y1
    obtain ⟨j, hj, rfl, hF, RO, N, B⟩ := hrel
    by_cases hlt : j < n
    · have hli : (j : Int) < (n : Int) := by omega
      have HLT : Hid (j < n) := hlt
      have HF : Hid (fnd P j = j) := hF
      have HJ := HP.out j
      obtain ⟨y2, y3⟩ := RO.2 j hlt
      rw [Nat.zero_add] at y2 y3
      generalize ocF s g M n j K = X at *
      generalize X + (M j).2 = Y at *
      have HJ : Hid (P j = (okI X Y && (decide (X ≤ t) && decide (t < Y)))) := HJ
      clear hF hlt hj
      have NL := Below.nw wr (.cells #[.int .i64 X, .int .i64 Y] 25)
      have Z := Bx2.new wr (.int .i64 X) (.int .i64 Y) 25
      go_upto_region 7 with fail
      replace B := B.trans (NL.mono B.size)
      replace N := N.below NL
      replace RO := RO.below' NL
      clear NL y2 y3
      generalize wr.alloc (.cells #[.int .i64 X, .int .i64 Y] 25) = w4 at *
      generalize wr.heap.size = jz at *
      obtain ⟨z0, z1, z2, z3, z4⟩ := id Z
      cases hQ : okI X Y
      · have HM : Hid (fnd P (j + 1) = j + 1) := fnd_miss HF.out (by rw [HJ.out, hQ]; rfl)
        go_wp2_with fail
        refine (CK _ _ _).mono ?_
        rintro e w5 ⟨rfl, hb⟩
        replace B := B.trans (hb.mono B.size)
        replace N := N.below hb
        replace RO := RO.below' hb
        replace Z := Z.below hb
        clear hb z0 z1 z2 z3 z4
        obtain ⟨z0, z1, z2, z3, z4⟩ := id Z
        rw [hQ]
        go_wp2_with fail
        go_roundw
        case rel => first | exact ⟨j + 1, HLT.out, by go_num, HM.out, RO, N, B⟩ | exact ⟨_, _, ⟨j + 1, HLT.out, rfl, HM.out⟩, rfl, by simp⟩
        case measure => have hlt' := HLT.out; simp [intOf]; omega
      by_cases hX : X ≤ t
      · by_cases hY : t < Y
        · have HM : Hid (fnd P n = j) := fnd_is HF.out (by rw [HJ.out, hQ, decide_eq_true hX, decide_eq_true hY]; rfl) HLT.out
          go_wp2_with fail
          refine (CK _ _ _).mono ?_
          rintro e w5 ⟨rfl, hb⟩
          replace B := B.trans (hb.mono B.size)
          replace N := N.below hb
          replace RO := RO.below' hb
          replace Z := Z.below hb
          clear hb z0 z1 z2 z3 z4
          obtain ⟨z0, z1, z2, z3, z4⟩ := id Z
          rw [hQ]
          go_wp2_with fail
          obtain ⟨e1, e2, e3⟩ := H1.out j HM.out HLT.out
          exact bodyPost_ret (v := (.tuple #[.int .i64 (j : Int), .int .i64 K, .bool true])) (by simp (maxDischargeDepth := 6) [results, Tryz.results91, go_sem, *]) rfl ⟨by rw [e1, e2, e3], B⟩
        · have HM : Hid (fnd P (j + 1) = j + 1) := fnd_miss HF.out (by rw [HJ.out, decide_eq_false hY]; simp)
          go_wp2_with fail
          refine (CK _ _ _).mono ?_
          rintro e w5 ⟨rfl, hb⟩
          replace B := B.trans (hb.mono B.size)
          replace N := N.below hb
          replace RO := RO.below' hb
          replace Z := Z.below hb
          clear hb z0 z1 z2 z3 z4
          obtain ⟨z0, z1, z2, z3, z4⟩ := id Z
          rw [hQ]
          go_wp2_with fail
          go_roundw
          case rel => first | exact ⟨j + 1, HLT.out, by go_num, HM.out, RO, N, B⟩ | exact ⟨_, _, ⟨j + 1, HLT.out, rfl, HM.out⟩, rfl, by simp⟩
          case measure => have hlt' := HLT.out; simp [intOf]; omega
      · have HM : Hid (fnd P (j + 1) = j + 1) := fnd_miss HF.out (by rw [HJ.out, decide_eq_false hX]; simp)
        go_wp2_with fail
        refine (CK _ _ _).mono ?_
        rintro e w5 ⟨rfl, hb⟩
        replace B := B.trans (hb.mono B.size)
        replace N := N.below hb
        replace RO := RO.below' hb
        replace Z := Z.below hb
        clear hb z0 z1 z2 z3 z4
        obtain ⟨z0, z1, z2, z3, z4⟩ := id Z
        rw [hQ]
        go_wp2_with fail
        go_roundw
        case rel => first | exact ⟨j + 1, HLT.out, by go_num, HM.out, RO, N, B⟩ | exact ⟨_, _, ⟨j + 1, HLT.out, rfl, HM.out⟩, rfl, by simp⟩
        case measure => have hlt' := HLT.out; simp [intOf]; omega
    · have hkn : j = n := by omega
      subst hkn
      have hli : ¬ (j : Int) < (j : Int) := by omega
      have HF : Hid (fnd P j = j) := hF
      clear hF
      go_wp2_with fail
      obtain ⟨e1, e2, e3⟩ := H0.out HF.out
      exact bodyPost_ret (v := (.tuple #[.int .i64 0, .int .i64 0, .bool false])) (by simp (maxDischargeDepth := 6) [results, Tryz.results91, go_sem, *]) rfl ⟨by rw [e1, e2, e3], B⟩

set_option maxRecDepth 100000 in
set_option maxHeartbeats 8000000 in
theorem implInSlot_any (s g : Int) (a : Option Addr) (n c : Nat) (M : Nat → SlT) (o f t : Int) (w : World) (hm : n ≤ maxLen) (hs : SrcC w a (n * 2) (MFSlot M)) :
    Calls Tryz.prog 79 #[.agg #[.int .i64 s, .int .i64 g, .slice a n c], .int .i64 o, .int .i64 f, .int .i64 t] w fun e w' => e = .returned (.tuple #[.int .i64 (isI s g M n o f t), .int .i64 (isK s g M n o f t), .bool (isB s g M n o f t)]) ∧ Below w.heap.size w w' := by
  have B := Below.nw w (.cells #[.int .i64 s, .int .i64 g, .slice a n c] 32)
  have N := Tx3.new w (.int .i64 s) (.int .i64 g) (.slice a n c) 32
  have HS : Hid (SrcC w a (n * 2) (MFSlot M)) := hs
  clear hs
  have C1 := fun w' h => implSlotAt_any s g a n c M f w' hm h
  cases h1 : saB s g M n f
  · have hB : isB s g M n o f t = false := by unfold isB; rw [h1]; rfl
    rw [(is_no hB).1, (is_no hB).2, hB]
    rw [h1, (sa_no h1).1, (sa_no h1).2] at C1
    clear hB
    go_enter Tryz.func79, Tryz.ntmps79
    go_upto_region 1 with fail
    generalize w.alloc (.cells #[.int .i64 s, .int .i64 g, .slice a n c] 32) = v at *
    obtain ⟨n0, n1, n2, n3, n4, n5, n6⟩ := id N
    go_wp2_with fail
    refine (C1 _ (HS.out.below B)).mono ?_
    rintro e v1 ⟨rfl, hb⟩
    clear n0 n1 n2 n3 n4 n5 n6
    replace B := B.trans (hb.mono B.size)
    replace N := N.below hb
    clear hb
    obtain ⟨n0, n1, n2, n3, n4, n5, n6⟩ := id N
    go_wp2_with fail
    exact bodyPost_ret (v := (.tuple #[.int .i64 0, .int .i64 0, .bool false])) (by simp (maxDischargeDepth := 6) [results, Tryz.results79, go_sem, *]) rfl ⟨rfl, B⟩
  obtain ⟨y1, y2, y3, y4⟩ := sa_yes h1
  have CO := fun w' h => implOccurrence_any s g a n c M (saI s g M n f) (saK s g M n f) w' hm h
  have hiN : (saI s g M n f).toNat < n := by rw [y1]; omega
  have hiE : saI s g M n f = ((saI s g M n f).toNat : Int) := by rw [y1]; omega
  have LK : Hid (∀ w', SrcC w' a (n * 2) (MFSlot M) → ∃ b off, a = some ⟨b, off, none⟩ ∧ w'.cell? ⟨b, off + (saI s g M n f).toNat * 2, none⟩ = some (.int .i64 (M (saI s g M n f).toNat).1) ∧ w'.cell? ⟨b, off + (saI s g M n f).toNat * 2 + 1, none⟩ = some (.int .i64 (M (saI s g M n f).toNat).2)) := fun w' h => by
    rcases h with q | ⟨b, off, e, hc⟩
    · exact absurd q (by omega)
    · exact ⟨b, off, e, hc.elSlot hiN rfl⟩
  have HB : isB s g M n o f t = (((M (saI s g M n f).toNat).1 == o) && (!decide (t < f) && !decide (ocH s g M n (saI s g M n f) (saK s g M n f) < t))) := by unfold isB; rw [h1]; rfl
  rw [h1] at C1
  have HI : Hid (((saI s g M n f).toNat : Int) < (n : Int)) := by rw [Hid]; omega
  have H0 : Hid (isB s g M n o f t = false → isI s g M n o f t = 0 ∧ isK s g M n o f t = 0) := is_no
  have H1 : Hid (isB s g M n o f t = true → isI s g M n o f t = saI s g M n f ∧ isK s g M n o f t = saK s g M n f) := is_yes
  clear y1 y2 y3 y4 h1 hiN
  generalize isI s g M n o f t = AI at *
  generalize isK s g M n o f t = AK at *
  generalize isB s g M n o f t = AB at *
  generalize ocL s g M n (saI s g M n f) (saK s g M n f) = X at *
  generalize ocH s g M n (saI s g M n f) (saK s g M n f) = Y at *
  generalize ocB s g M n (saI s g M n f) (saK s g M n f) = Q at *
  generalize saK s g M n f = K at *
  generalize hS : saI s g M n f = I at *
  clear hS
  generalize I.toNat = iN at *
  subst hiE
  generalize (M iN).1 = ow at *
  generalize (M iN).2 = lg at *
  have hli := HI.out
  cases ho : (ow == o)
  · have hne : (ow != o) = true := by rw [bne, ho]; rfl
    have e0 : AB = false := by rw [HB, ho]; rfl
    subst e0
    obtain ⟨rfl, rfl⟩ := H0.out rfl
    clear HB H0 H1 ho
    go_enter Tryz.func79, Tryz.ntmps79
    go_upto_region 1 with fail
    generalize w.alloc (.cells #[.int .i64 s, .int .i64 g, .slice a n c] 32) = v at *
    obtain ⟨n0, n1, n2, n3, n4, n5, n6⟩ := id N
    go_wp2_with fail
    refine (C1 _ (HS.out.below B)).mono ?_
    rintro e v1 ⟨rfl, hb⟩
    clear n0 n1 n2 n3 n4 n5 n6
    replace B := B.trans (hb.mono B.size)
    replace N := N.below hb
    clear hb
    obtain ⟨b, off, rfl, c1, c2⟩ := LK.out v1 (HS.out.below B)
    clear LK HS
    obtain ⟨n0, n1, n2, n3, n4, n5, n6⟩ := id N
    go_wp2_with fail
    exact bodyPost_ret (v := (.tuple #[.int .i64 0, .int .i64 0, .bool false])) (by simp (maxDischargeDepth := 6) [results, Tryz.results79, go_sem, *]) rfl ⟨rfl, B⟩
  have hne : (ow != o) = false := by rw [bne, ho]; rfl
  by_cases h3 : t < f
  · have e0 : AB = false := by rw [HB, decide_eq_true h3]; simp
    subst e0
    obtain ⟨rfl, rfl⟩ := H0.out rfl
    clear HB H0 H1 ho
    go_enter Tryz.func79, Tryz.ntmps79
    go_upto_region 1 with fail
    generalize w.alloc (.cells #[.int .i64 s, .int .i64 g, .slice a n c] 32) = v at *
    obtain ⟨n0, n1, n2, n3, n4, n5, n6⟩ := id N
    go_wp2_with fail
    refine (C1 _ (HS.out.below B)).mono ?_
    rintro e v1 ⟨rfl, hb⟩
    clear n0 n1 n2 n3 n4 n5 n6
    replace B := B.trans (hb.mono B.size)
    replace N := N.below hb
    clear hb
    obtain ⟨b, off, rfl, c1, c2⟩ := LK.out v1 (HS.out.below B)
    clear LK HS
    obtain ⟨n0, n1, n2, n3, n4, n5, n6⟩ := id N
    go_wp2_with fail
    exact bodyPost_ret (v := (.tuple #[.int .i64 0, .int .i64 0, .bool false])) (by simp (maxDischargeDepth := 6) [results, Tryz.results79, go_sem, *]) rfl ⟨rfl, B⟩
  by_cases h4 : Y < t
  · have e0 : AB = false := by rw [HB, decide_eq_true h4]; simp
    subst e0
    obtain ⟨rfl, rfl⟩ := H0.out rfl
    clear HB H0 H1 ho
    go_enter Tryz.func79, Tryz.ntmps79
    go_upto_region 1 with fail
    generalize w.alloc (.cells #[.int .i64 s, .int .i64 g, .slice a n c] 32) = v at *
    obtain ⟨n0, n1, n2, n3, n4, n5, n6⟩ := id N
    go_wp2_with fail
    refine (C1 _ (HS.out.below B)).mono ?_
    rintro e v1 ⟨rfl, hb⟩
    clear n0 n1 n2 n3 n4 n5 n6
    replace B := B.trans (hb.mono B.size)
    replace N := N.below hb
    clear hb
    obtain ⟨b, off, rfl, c1, c2⟩ := LK.out v1 (HS.out.below B)
    clear LK
    obtain ⟨n0, n1, n2, n3, n4, n5, n6⟩ := id N
    go_wp2_with fail
    refine (CO _ (HS.out.below B)).mono ?_
    rintro e v2 ⟨rfl, hb⟩
    clear n0 n1 n2 n3 n4 n5 n6
    replace B := B.trans (hb.mono B.size)
    replace N := N.below hb
    clear hb
    clear c1 c2
    have NL := Below.nw v2 (.cells #[.int .i64 X, .int .i64 Y] 25)
    have Z := Bx2.new v2 (.int .i64 X) (.int .i64 Y) 25
    go_upto_region 5 with fail
    replace B := B.trans (NL.mono B.size)
    clear NL
    generalize v2.alloc (.cells #[.int .i64 X, .int .i64 Y] 25) = v3 at *
    generalize v2.heap.size = jz at *
    obtain ⟨z0, z1, z2, z3, z4⟩ := id Z
    go_wp2_with fail
    exact bodyPost_ret (v := (.tuple #[.int .i64 0, .int .i64 0, .bool false])) (by simp (maxDischargeDepth := 6) [results, Tryz.results79, go_sem, *]) rfl ⟨rfl, B⟩
  have e0 : AB = true := by rw [HB, ho, decide_eq_false h3, decide_eq_false h4]; rfl
  subst e0
  obtain ⟨rfl, rfl⟩ := H1.out rfl
  clear HB H0 H1 ho
  go_enter Tryz.func79, Tryz.ntmps79
  go_upto_region 1 with fail
  generalize w.alloc (.cells #[.int .i64 s, .int .i64 g, .slice a n c] 32) = v at *
  obtain ⟨n0, n1, n2, n3, n4, n5, n6⟩ := id N
  go_wp2_with fail
  refine (C1 _ (HS.out.below B)).mono ?_
  rintro e v1 ⟨rfl, hb⟩
  clear n0 n1 n2 n3 n4 n5 n6
  replace B := B.trans (hb.mono B.size)
  replace N := N.below hb
  clear hb
  obtain ⟨b, off, rfl, c1, c2⟩ := LK.out v1 (HS.out.below B)
  clear LK
  obtain ⟨n0, n1, n2, n3, n4, n5, n6⟩ := id N
  go_wp2_with fail
  refine (CO _ (HS.out.below B)).mono ?_
  rintro e v2 ⟨rfl, hb⟩
  clear n0 n1 n2 n3 n4 n5 n6
  replace B := B.trans (hb.mono B.size)
  replace N := N.below hb
  clear hb
  clear c1 c2
  have NL := Below.nw v2 (.cells #[.int .i64 X, .int .i64 Y] 25)
  have Z := Bx2.new v2 (.int .i64 X) (.int .i64 Y) 25
  go_upto_region 5 with fail
  replace B := B.trans (NL.mono B.size)
  clear NL
  generalize v2.alloc (.cells #[.int .i64 X, .int .i64 Y] 25) = v3 at *
  generalize v2.heap.size = jz at *
  obtain ⟨z0, z1, z2, z3, z4⟩ := id Z
  go_wp2_with fail
  exact bodyPost_ret (v := (.tuple #[.int .i64 (iN : Int), .int .i64 AK, .bool true])) (by simp (maxDischargeDepth := 6) [results, Tryz.results79, go_sem, *]) rfl ⟨rfl, B⟩
end Go.Proofs.YtcakhfobkbgfoaaGreatDoor
namespace Go.Proofs.YtcakhfobkbgfoaaGreatDoor
open Go.RowKit
set_option linter.unusedVariables false
set_option maxHeartbeats 4000000 in
theorem mayCarry_any (k : Nat) (kn : Bool) (lo hi a n d c : Int) (w : World) (H : BoxL w k kn lo hi a) :
    Calls Tryz.prog 84 #[.pointer (some ⟨k, 0, none⟩), .agg #[.int .i64 n, .int .i64 d], .int .i64 c] w fun e w' => e = .returned (.bool (crP kn lo hi a n d c)) ∧ Below w.heap.size w w' := by
  have B0 : Below w.heap.size w (w.alloc (.cells #[.int .i64 n, .int .i64 d] 29)) := Below.alc _ _
  have Q0 := Bx.new w n d 29
  have H0 := H.below B0
  cases h1 : okL kn lo hi a <;> cases h2 : okD n d <;> cases h3 : okT c
  all_goals
    go_enter Tryz.func84, Tryz.ntmps84
    go_wp2_with fail
    refine (ptrOk_any _ _ _ _ _ _ H0).mono ?_
    rintro e v ⟨rfl, hb⟩
    have B := B0.trans (hb.mono B0.size)
    obtain ⟨q0, q1, q2, q3, q4⟩ := Q0.below hb
    clear hb
    go_wp2_with (first | (go_at_call 71; refine (okd_any _ _ _).mono ?_; rintro e w' ⟨rfl, hb⟩; obtain ⟨hc, hf⟩ := bcell hb; (first | have hB := Below.trans (Below.trans hB (by repeat (first | exact Below.refl _ _ | refine Below.drew ?_ | refine Below.alloc ?_ (by first | (simp; done) | (simp; omega) | omega) _ | refine Below.setCell ?_ (by first | (simp; done) | (simp; omega) | omega) _ | refine Below.trans ?_ (Below.mono (by assumption) (by first | (simp; done) | (simp; omega) | omega))))) (Below.mono hb (by first | (simp; done) | (simp; omega) | omega)) | have hB := hb); obtain ⟨hC, hF⟩ := bcell hB; have hz := hb.size; (try simp at hz); (try (have hz0 : w.heap.size < w'.heap.size := by omega)); (try (have hz1 : w.heap.size + 1 < w'.heap.size := by omega)); (try (have hz2 : w.heap.size + 1 + 1 < w'.heap.size := by omega)); (try (have hz3 : w.heap.size + 1 + 1 + 1 < w'.heap.size := by omega))) | (go_at_call 23; refine (isTime_any _ _).mono ?_; rintro e w' ⟨rfl, rfl⟩))
    go_ret
    exact ⟨ret_bool (by simp [crP, *]), by repeat (first | exact Below.refl _ _ | refine Below.drew ?_ | refine Below.alloc ?_ (by first | (simp; done) | (simp; omega) | omega) _ | refine Below.setCell ?_ (by first | (simp; done) | (simp; omega) | omega) _ | refine Below.trans ?_ (Below.mono (by assumption) (by first | (simp; done) | (simp; omega) | omega)))⟩
set_option maxRecDepth 100000 in
set_option maxHeartbeats 4000000 in
theorem carry_any (k : Nat) (kn : Bool) (lo hi a n d c : Int) (w : World) (H : BoxL w k kn lo hi a) :
    Calls Tryz.prog 67 #[.pointer (some ⟨k, 0, none⟩), .agg #[.int .i64 n, .int .i64 d], .int .i64 c] w fun e w' => e = .returned (.tuple #[.agg #[.int .i64 (crL kn lo hi a n d c), .int .i64 (crH kn lo hi a n d c)], .int .i64 (crC kn lo hi a n d c)]) ∧ Below w.heap.size w w' := by
  have B : Below w.heap.size w ((w.alloc (.cells #[.int .i64 n, .int .i64 d] 29)).alloc (.cells #[.int .i64 0, .int .i64 0] 25)) := (Below.alc _ _).alloc (by simp) _
  have Q := (Bx.new w n d 29).alloc (.cells #[.int .i64 0, .int .i64 0] 25)
  have R := Bx.new (w.alloc (.cells #[.int .i64 n, .int .i64 d] 29)) 0 0 25
  simp only [World.size_alloc] at R
  have hk : k < w.heap.size := H.1
  replace H := H.below B
  cases hp : crP kn lo hi a n d c
  · obtain ⟨e1, e2, e3⟩ := crC_1 hp
    rw [e1, e2, e3]
    clear e1 e2 e3
    have CM := fun v H' => mayCarry_any k kn lo hi a n d c v H'
    rw [hp] at CM
    go_enter Tryz.func67, Tryz.ntmps67
    go_wp2_with fail
    refine (CM _ H).mono ?_
    rintro e v ⟨rfl, hb⟩
    replace B := B.trans (hb.mono B.size)
    obtain ⟨r0, r1, r2, r3, r4⟩ := R.below hb
    clear hb H Q R CM
    go_wp2
    exact bodyPost_ret (v := .tuple #[.agg #[.int .i64 0, .int .i64 0], .int .i64 1]) (by simp (maxDischargeDepth := 6) [results, Tryz.results67, go_sem, *]) rfl ⟨rfl, by repeat (first | exact Below.refl _ _ | refine Below.drew ?_ | refine Below.alloc ?_ (by first | (simp; done) | (simp; omega) | omega) _ | refine Below.setCell ?_ (by first | (simp; done) | (simp; omega) | omega) _ | refine Below.trans ?_ (Below.mono (by assumption) (by first | (simp; done) | (simp; omega) | omega)))⟩
  cases kn
  · obtain ⟨e1, e2, e3⟩ := crC_2 hp
    rw [e1, e2, e3]
    clear e1 e2 e3
    have CM := fun v H' => mayCarry_any k false lo hi a n d c v H'
    rw [hp] at CM
    go_enter Tryz.func67, Tryz.ntmps67
    go_wp2_with fail
    refine (CM _ H).mono ?_
    rintro e v ⟨rfl, hb⟩
    replace B := B.trans (hb.mono B.size)
    obtain ⟨r0, r1, r2, r3, r4⟩ := R.below hb
    obtain ⟨a0, a1, a2, a3, a4, a5, a6, a7, a8⟩ := H.below hb
    clear hb H Q R CM
    go_wp2
    exact bodyPost_ret (v := .tuple #[.agg #[.int .i64 0, .int .i64 0], .int .i64 2]) (by simp (maxDischargeDepth := 6) [results, Tryz.results67, go_sem, *]) rfl ⟨rfl, by repeat (first | exact Below.refl _ _ | refine Below.drew ?_ | refine Below.alloc ?_ (by first | (simp; done) | (simp; omega) | omega) _ | refine Below.setCell ?_ (by first | (simp; done) | (simp; omega) | omega) _ | refine Below.trans ?_ (Below.mono (by assumption) (by first | (simp; done) | (simp; omega) | omega)))⟩
  have CM := fun v H' => mayCarry_any k true lo hi a n d c v H'
  rw [hp] at CM
  by_cases h4 : c < a
  · obtain ⟨e1, e2, e3⟩ := crC_3 hp h4
    rw [e1, e2, e3]
    clear e1 e2 e3
    go_enter Tryz.func67, Tryz.ntmps67
    go_wp2_with fail
    refine (CM _ H).mono ?_
    rintro e v ⟨rfl, hb⟩
    replace B := B.trans (hb.mono B.size)
    obtain ⟨r0, r1, r2, r3, r4⟩ := R.below hb
    obtain ⟨a0, a1, a2, a3, a4, a5, a6, a7, a8⟩ := H.below hb
    clear hb H Q R CM
    go_wp2
    exact bodyPost_ret (v := .tuple #[.agg #[.int .i64 0, .int .i64 0], .int .i64 3]) (by simp (maxDischargeDepth := 6) [results, Tryz.results67, go_sem, *]) rfl ⟨rfl, by repeat (first | exact Below.refl _ _ | refine Below.drew ?_ | refine Below.alloc ?_ (by first | (simp; done) | (simp; omega) | omega) _ | refine Below.setCell ?_ (by first | (simp; done) | (simp; omega) | omega) _ | refine Below.trans ?_ (Below.mono (by assumption) (by first | (simp; done) | (simp; omega) | omega)))⟩
  obtain ⟨_, p2, _, p4⟩ := crP_p hp
  obtain ⟨g1, g2⟩ := okT_t p2
  obtain ⟨g3, g4⟩ := okT_t p4
  have hwr : IntKind.i64.wrap (c - a) = c - a := Go.IntWalk.i64_in _ ⟨by omega, by omega⟩
  have E : ∃ U D X Y : Int, ∃ bt pl : Bool, (∀ w', Calls Tryz.prog 85 #[.agg #[.int .i64 n, .int .i64 d], .int .i64 (IntKind.i64.wrap (c - a))] w' fun e w'' => e = .returned (.tuple #[.agg #[.int .i64 U, .int .i64 D], .bool bt]) ∧ Below w'.heap.size w' w'') ∧ (bt = true → ∀ w', Calls Tryz.prog 86 #[.agg #[.int .i64 lo, .int .i64 hi], .agg #[.int .i64 U, .int .i64 D]] w' fun e w'' => e = .returned (.tuple #[.agg #[.int .i64 X, .int .i64 Y], .bool pl]) ∧ Below w'.heap.size w' w'') ∧ (bt = false → crC true lo hi a n d c = 4 ∧ crL true lo hi a n d c = 0 ∧ crH true lo hi a n d c = 0) ∧ (bt = true → pl = false → crC true lo hi a n d c = 4 ∧ crL true lo hi a n d c = 0 ∧ crH true lo hi a n d c = 0) ∧ (bt = true → pl = true → crC true lo hi a n d c = 0 ∧ crL true lo hi a n d c = X ∧ crH true lo hi a n d c = Y) := by
    refine ⟨_, _, _, _, _, _, fun w' => by rw [hwr]; exact implBetween_any n d (c - a) w', fun hb w' => implPlusIval_any _ _ _ _ w', fun hb => crC_4 hp h4 hb, fun hb hq => ?_, fun hb hq => ?_⟩
    · rw [hb, sel_t rfl, sel_t rfl] at hq; exact crC_5 hp h4 hb hq
    · rw [hb, sel_t rfl, sel_t rfl] at hq; rw [hb, sel_t rfl, sel_t rfl, hq, sel_t rfl, sel_t rfl]; exact crC_0 hp h4 hb hq
  obtain ⟨U, D, X, Y, bt, pl, CB, CP, F1, F2, F3⟩ := E
  replace F1 : Hid (bt = false → crC true lo hi a n d c = 4 ∧ crL true lo hi a n d c = 0 ∧ crH true lo hi a n d c = 0) := F1
  replace F2 : Hid (bt = true → pl = false → crC true lo hi a n d c = 4 ∧ crL true lo hi a n d c = 0 ∧ crH true lo hi a n d c = 0) := F2
  replace F3 : Hid (bt = true → pl = true → crC true lo hi a n d c = 0 ∧ crL true lo hi a n d c = X ∧ crH true lo hi a n d c = Y) := F3
  replace CP : Hid (bt = true → ∀ w', Calls Tryz.prog 86 #[.agg #[.int .i64 lo, .int .i64 hi], .agg #[.int .i64 U, .int .i64 D]] w' fun e w'' => e = .returned (.tuple #[.agg #[.int .i64 X, .int .i64 Y], .bool pl]) ∧ Below w'.heap.size w' w'') := CP
  clear hp p2 p4 hwr
  go_enter Tryz.func67, Tryz.ntmps67
  go_wp2_with fail
  refine (CM _ H).mono ?_
  rintro e v ⟨rfl, hb⟩
  replace B := B.trans (hb.mono B.size)
  replace H := H.below hb
  replace Q := Q.below hb
  replace R := R.below hb
  clear hb CM
  obtain ⟨a0, a1, a2, a3, a4, a5, a6, a7, a8⟩ := id H
  obtain ⟨b0, b1, b2, b3, b4⟩ := id Q
  obtain ⟨r0, r1, r2, r3, r4⟩ := id R
  go_wp2_with fail
  go_cut [8, 9] (fun s8 s9 wx => ∃ j : Nat, s8 = .pointer (some ⟨j, 0, none⟩) ∧ s9 = .bool bt ∧ Bx wx j U D ∧ w.heap.size + 1 < j ∧ BoxL wx k true lo hi a ∧ Bx wx w.heap.size n d ∧ Bx wx (w.heap.size + 1) 0 0 ∧ Below w.heap.size w wx)
  case first =>
    refine wp_region_held_drew (S := (fun w' => w'.cell? ⟨k, 3, none⟩ = some (.int .i64 a) ∧ w'.cell? ⟨w.heap.size, 0, none⟩ = some (.int .i64 n) ∧ w'.cell? ⟨w.heap.size, 1, none⟩ = some (.int .i64 d))) (by kernel_rfl) ?_ (fun hHeld => ?_)
    · simp (maxDischargeDepth := 6) [go_sem, *]
    clear a0 a1 a2 a3 a4 a5 a6 a7 a8 b0 b1 b2 b3 b4 r0 r1 r2 r3 r4; (try clear n0 n1 n2 n3 n4); (try clear m0 m1 m2 m3 m4)
    replace H := H.drew
    replace Q := Q.drew
    replace R := R.drew
    replace B := B.drew
    (try replace M := M.drew)
    generalize v.drew = v at *
    obtain ⟨a0, a1, a2, a3, a4, a5, a6, a7, a8⟩ := id H; obtain ⟨b0, b1, b2, b3, b4⟩ := id Q; obtain ⟨r0, r1, r2, r3, r4⟩ := id R; (try (obtain ⟨n0, n1, n2, n3, n4⟩ := id N)); (try (obtain ⟨m0, m1, m2, m3, m4⟩ := id M))
    refine wpAnyH_take (i := 0) (v := ?_) (by rw [List.getElem?_toArray]; rfl) (by kernel_rfl) (by kernel_rfl) (by kernel_rfl) (by intro _ _ _ h; exact h) (Or.inl ⟨by rfl, ?_⟩) (by assumption) ?_
    rotate_left
    · (intro w hSw; (try dsimp only at hSw); go_simp; all_goals with_reducible rfl)
    (try simp only [Act.put, List.setIfInBounds_toArray, List.set_cons_zero, List.set_cons_succ])
    refine wpAnyH_take (i := 1) (v := ?_) (by rw [List.getElem?_toArray]; rfl) (by kernel_rfl) (by kernel_rfl) (by kernel_rfl) (by intro _ _ _ h; exact h) (Or.inl ⟨by rfl, ?_⟩) (by assumption) ?_
    rotate_left
    · (intro w hSw; (try dsimp only at hSw); go_simp; all_goals with_reducible rfl)
    (try simp only [Act.put, List.setIfInBounds_toArray, List.set_cons_zero, List.set_cons_succ])
    refine wpAnyH_take (i := 2) (v := ?_) (by rw [List.getElem?_toArray]; rfl) (by kernel_rfl) (by kernel_rfl) (by kernel_rfl) (by intro _ _ _ h; exact h) (Or.inl ⟨by rfl, ?_⟩) (by assumption) ?_
    rotate_left
    · (intro w hSw; (try dsimp only at hSw); go_simp; all_goals with_reducible rfl)
    (try simp only [Act.put, List.setIfInBounds_toArray, List.set_cons_zero, List.set_cons_succ])
    refine wpAnyH_take (i := 3) (v := ?_) (by rw [List.getElem?_toArray]; rfl) (by kernel_rfl) (by kernel_rfl) (by kernel_rfl) (by intro _ _ _ h; exact h) (Or.inl ⟨by rfl, ?_⟩) (by assumption) ?_
    rotate_left
    · (intro w hSw; (try dsimp only at hSw); go_simp; all_goals with_reducible rfl)
    (try simp only [Act.put, List.setIfInBounds_toArray, List.set_cons_zero, List.set_cons_succ])
    refine wpAnyH_take (i := 4) (v := ?_) (by rw [List.getElem?_toArray]; rfl) (by kernel_rfl) (by kernel_rfl) (by kernel_rfl) (by intro _ _ _ h; exact h) (Or.inl ⟨by rfl, ?_⟩) (by assumption) ?_
    rotate_left
    · (intro w hSw; (try dsimp only at hSw); go_simp; all_goals with_reducible rfl)
    (try simp only [Act.put, List.setIfInBounds_toArray, List.set_cons_zero, List.set_cons_succ])
    refine wpAnyH_take (i := 5) (v := ?_) (by rw [List.getElem?_toArray]; rfl) (by kernel_rfl) (by kernel_rfl) (by kernel_rfl) (by intro _ _ _ h; exact h) (Or.inl ⟨by rfl, ?_⟩) (by assumption) ?_
    rotate_left
    · (intro w hSw; (try dsimp only at hSw); go_simp; all_goals with_reducible rfl)
    (try simp only [Act.put, List.setIfInBounds_toArray, List.set_cons_zero, List.set_cons_succ])
    refine wpAnyH_take (i := 6) (v := ?_) (by rw [List.getElem?_toArray]; rfl) (by kernel_rfl) (by kernel_rfl) (by kernel_rfl) (by intro _ _ _ h; exact h) (Or.inl ⟨by rfl, ?_⟩) (by assumption) ?_
    rotate_left
    · (intro w hSw; (try dsimp only at hSw); go_simp; all_goals with_reducible rfl)
    (try simp only [Act.put, List.setIfInBounds_toArray, List.set_cons_zero, List.set_cons_succ])
    refine wpAnyH_ready (rs := [7, 11]) (by kernel_rfl) (by simp) ?_
    refine (AllReadyH.cons (by rw [List.getElem?_toArray]; rfl) (fun K hK => ?_) (AllReadyH.cons (by rw [List.getElem?_toArray]; rfl) (fun K hK => ?_) AllReadyH.nil))
    · go_simp
      refine (CB _).mono ?_; rintro e v ⟨rfl, hb⟩; clear a0 a1 a2 a3 a4 a5 a6 a7 a8 b0 b1 b2 b3 b4 r0 r1 r2 r3 r4; (try clear n0 n1 n2 n3 n4); (try clear m0 m1 m2 m3 m4); (replace H := H.below hb); (replace Q := Q.below hb); (replace R := R.below hb); (try (replace N := N.below hb)); (try (replace M := M.below hb)); (replace B := B.trans (hb.mono B.size)); clear hb; obtain ⟨a0, a1, a2, a3, a4, a5, a6, a7, a8⟩ := id H; obtain ⟨b0, b1, b2, b3, b4⟩ := id Q; obtain ⟨r0, r1, r2, r3, r4⟩ := id R; (try (obtain ⟨n0, n1, n2, n3, n4⟩ := id N)); (try (obtain ⟨m0, m1, m2, m3, m4⟩ := id M))
      (try go_wp2_with fail)
      refine hK.out _ _ ?_ (fun hHeld => ?_)
      · simp (maxDischargeDepth := 6) [go_sem, *]
      clear hK K
      (try simp only [Act.put, List.setIfInBounds_toArray, List.set_cons_zero, List.set_cons_succ])
      refine wpAnyH_take (i := 8) (v := ?_) (by rw [List.getElem?_toArray]; rfl) (by kernel_rfl) (by kernel_rfl) (by kernel_rfl) (by intro _ _ _ h; exact h) (Or.inl ⟨by rfl, ?_⟩) (by assumption) ?_
      rotate_left
      · (intro w hSw; (try dsimp only at hSw); go_simp; all_goals with_reducible rfl)
      (try simp only [Act.put, List.setIfInBounds_toArray, List.set_cons_zero, List.set_cons_succ])
      refine wpAnyH_take (i := 9) (v := ?_) (by rw [List.getElem?_toArray]; rfl) (by kernel_rfl) (by kernel_rfl) (by kernel_rfl) (by intro _ _ _ h; exact h) (Or.inl ⟨by rfl, ?_⟩) (by assumption) ?_
      rotate_left
      · (intro w hSw; (try dsimp only at hSw); go_simp; all_goals with_reducible rfl)
      (try simp only [Act.put, List.setIfInBounds_toArray, List.set_cons_zero, List.set_cons_succ])
      refine wpAnyH_take (i := 10) (v := ?_) (by rw [List.getElem?_toArray]; rfl) (by kernel_rfl) (by kernel_rfl) (by kernel_rfl) (by intro _ _ _ h; exact h) (Or.inl ⟨by rfl, ?_⟩) (by assumption) ?_
      rotate_left
      · (intro w hSw; (try dsimp only at hSw); go_simp; all_goals with_reducible rfl)
      (try simp only [Act.put, List.setIfInBounds_toArray, List.set_cons_zero, List.set_cons_succ])
      refine wpAnyH_ready (rs := [11]) (by kernel_rfl) (by simp) ?_
      refine (AllReadyH.cons (by rw [List.getElem?_toArray]; rfl) (fun K hK => ?_) AllReadyH.nil)
      go_simp
      (have N := Bx.new v 0 0 25); (have hj : w.heap.size + 1 < v.heap.size := r0); (try (have hjM : jM < v.heap.size := m0)); clear a0 a1 a2 a3 a4 a5 a6 a7 a8 b0 b1 b2 b3 b4 r0 r1 r2 r3 r4; (try clear n0 n1 n2 n3 n4); (try clear m0 m1 m2 m3 m4); (replace H := H.alloc (.cells #[.int .i64 0, .int .i64 0] 25)); (replace Q := Q.alloc (.cells #[.int .i64 0, .int .i64 0] 25)); (replace R := R.alloc (.cells #[.int .i64 0, .int .i64 0] 25)); (try (replace M := M.alloc (.cells #[.int .i64 0, .int .i64 0] 25))); (replace B := B.alloc B.size (.cells #[.int .i64 0, .int .i64 0] 25)); (generalize v.alloc (.cells #[.int .i64 0, .int .i64 0] 25) = v2 at *); obtain ⟨a0, a1, a2, a3, a4, a5, a6, a7, a8⟩ := id H; obtain ⟨b0, b1, b2, b3, b4⟩ := id Q; obtain ⟨r0, r1, r2, r3, r4⟩ := id R; (try (obtain ⟨n0, n1, n2, n3, n4⟩ := id N)); (try (obtain ⟨m0, m1, m2, m3, m4⟩ := id M))
      refine hK.out _ _ ?_ (fun hHeld => ?_)
      · simp (maxDischargeDepth := 6) [go_sem, *]
      clear hK K
      (try simp only [Act.put, List.setIfInBounds_toArray, List.set_cons_zero, List.set_cons_succ])
      refine wpAnyH_ready (rs := [12]) (by kernel_rfl) (by simp) ?_
      refine (AllReadyH.cons (by rw [List.getElem?_toArray]; rfl) (fun K hK => ?_) AllReadyH.nil)
      go_simp
      refine hK.out _ _ ?_ (fun hHeld => ?_)
      · simp (maxDischargeDepth := 6) [go_sem, *]
      clear hK K
      (try simp only [Act.put, List.setIfInBounds_toArray, List.set_cons_zero, List.set_cons_succ])
      refine wpAnyH_take (i := 13) (v := ?_) (by rw [List.getElem?_toArray]; rfl) (by kernel_rfl) (by kernel_rfl) (by kernel_rfl) (by intro _ _ _ h; exact h) (Or.inl ⟨by rfl, ?_⟩) (by assumption) ?_
      rotate_left
      · (intro w hSw; (try dsimp only at hSw); go_simp; all_goals with_reducible rfl)
      (try simp only [Act.put, List.setIfInBounds_toArray, List.set_cons_zero, List.set_cons_succ])
      refine wpAnyH_done (by kernel_rfl) ?_ _
      go_wp2_with fail
      go_meet
      case rel => exact ⟨_, rfl, rfl, N.setI U D, hj, H.setIO (by omega) U D, Q.setIO (by omega) U D, R.setIO (by omega) U D, Below.setI B (by omega) U D⟩
    · go_simp
      (have N := Bx.new v 0 0 25); (have hj : w.heap.size + 1 < v.heap.size := r0); (try (have hjM : jM < v.heap.size := m0)); clear a0 a1 a2 a3 a4 a5 a6 a7 a8 b0 b1 b2 b3 b4 r0 r1 r2 r3 r4; (try clear n0 n1 n2 n3 n4); (try clear m0 m1 m2 m3 m4); (replace H := H.alloc (.cells #[.int .i64 0, .int .i64 0] 25)); (replace Q := Q.alloc (.cells #[.int .i64 0, .int .i64 0] 25)); (replace R := R.alloc (.cells #[.int .i64 0, .int .i64 0] 25)); (try (replace M := M.alloc (.cells #[.int .i64 0, .int .i64 0] 25))); (replace B := B.alloc B.size (.cells #[.int .i64 0, .int .i64 0] 25)); (generalize v.alloc (.cells #[.int .i64 0, .int .i64 0] 25) = v2 at *); obtain ⟨a0, a1, a2, a3, a4, a5, a6, a7, a8⟩ := id H; obtain ⟨b0, b1, b2, b3, b4⟩ := id Q; obtain ⟨r0, r1, r2, r3, r4⟩ := id R; (try (obtain ⟨n0, n1, n2, n3, n4⟩ := id N)); (try (obtain ⟨m0, m1, m2, m3, m4⟩ := id M))
      refine hK.out _ _ ?_ (fun hHeld => ?_)
      · simp (maxDischargeDepth := 6) [go_sem, *]
      clear hK K
      (try simp only [Act.put, List.setIfInBounds_toArray, List.set_cons_zero, List.set_cons_succ])
      refine wpAnyH_ready (rs := [7]) (by kernel_rfl) (by simp) ?_
      refine (AllReadyH.cons (by rw [List.getElem?_toArray]; rfl) (fun K hK => ?_) AllReadyH.nil)
      go_simp
      refine (CB _).mono ?_; rintro e v ⟨rfl, hb⟩; clear a0 a1 a2 a3 a4 a5 a6 a7 a8 b0 b1 b2 b3 b4 r0 r1 r2 r3 r4; (try clear n0 n1 n2 n3 n4); (try clear m0 m1 m2 m3 m4); (replace H := H.below hb); (replace Q := Q.below hb); (replace R := R.below hb); (try (replace N := N.below hb)); (try (replace M := M.below hb)); (replace B := B.trans (hb.mono B.size)); clear hb; obtain ⟨a0, a1, a2, a3, a4, a5, a6, a7, a8⟩ := id H; obtain ⟨b0, b1, b2, b3, b4⟩ := id Q; obtain ⟨r0, r1, r2, r3, r4⟩ := id R; (try (obtain ⟨n0, n1, n2, n3, n4⟩ := id N)); (try (obtain ⟨m0, m1, m2, m3, m4⟩ := id M))
      (try go_wp2_with fail)
      refine hK.out _ _ ?_ (fun hHeld => ?_)
      · simp (maxDischargeDepth := 6) [go_sem, *]
      clear hK K
      (try simp only [Act.put, List.setIfInBounds_toArray, List.set_cons_zero, List.set_cons_succ])
      refine wpAnyH_take (i := 8) (v := ?_) (by rw [List.getElem?_toArray]; rfl) (by kernel_rfl) (by kernel_rfl) (by kernel_rfl) (by intro _ _ _ h; exact h) (Or.inl ⟨by rfl, ?_⟩) (by assumption) ?_
      rotate_left
      · (intro w hSw; (try dsimp only at hSw); go_simp; all_goals with_reducible rfl)
      (try simp only [Act.put, List.setIfInBounds_toArray, List.set_cons_zero, List.set_cons_succ])
      refine wpAnyH_take (i := 9) (v := ?_) (by rw [List.getElem?_toArray]; rfl) (by kernel_rfl) (by kernel_rfl) (by kernel_rfl) (by intro _ _ _ h; exact h) (Or.inl ⟨by rfl, ?_⟩) (by assumption) ?_
      rotate_left
      · (intro w hSw; (try dsimp only at hSw); go_simp; all_goals with_reducible rfl)
      (try simp only [Act.put, List.setIfInBounds_toArray, List.set_cons_zero, List.set_cons_succ])
      refine wpAnyH_take (i := 10) (v := ?_) (by rw [List.getElem?_toArray]; rfl) (by kernel_rfl) (by kernel_rfl) (by kernel_rfl) (by intro _ _ _ h; exact h) (Or.inl ⟨by rfl, ?_⟩) (by assumption) ?_
      rotate_left
      · (intro w hSw; (try dsimp only at hSw); go_simp; all_goals with_reducible rfl)
      (try simp only [Act.put, List.setIfInBounds_toArray, List.set_cons_zero, List.set_cons_succ])
      refine wpAnyH_ready (rs := [12]) (by kernel_rfl) (by simp) ?_
      refine (AllReadyH.cons (by rw [List.getElem?_toArray]; rfl) (fun K hK => ?_) AllReadyH.nil)
      go_simp
      refine hK.out _ _ ?_ (fun hHeld => ?_)
      · simp (maxDischargeDepth := 6) [go_sem, *]
      clear hK K
      (try simp only [Act.put, List.setIfInBounds_toArray, List.set_cons_zero, List.set_cons_succ])
      refine wpAnyH_take (i := 13) (v := ?_) (by rw [List.getElem?_toArray]; rfl) (by kernel_rfl) (by kernel_rfl) (by kernel_rfl) (by intro _ _ _ h; exact h) (Or.inl ⟨by rfl, ?_⟩) (by assumption) ?_
      rotate_left
      · (intro w hSw; (try dsimp only at hSw); go_simp; all_goals with_reducible rfl)
      (try simp only [Act.put, List.setIfInBounds_toArray, List.set_cons_zero, List.set_cons_succ])
      refine wpAnyH_done (by kernel_rfl) ?_ _
      go_wp2_with fail
      go_meet
      case rel => exact ⟨_, rfl, rfl, N.setI U D, hj, H.setIO (by omega) U D, Q.setIO (by omega) U D, R.setIO (by omega) U D, Below.setI B (by omega) U D⟩
  case rest =>
    obtain ⟨jM, rfl, rfl, M, hjm, H', Q', R', B'⟩ := hcut
    clear H Q R B a0 a1 a2 a3 a4 a5 a6 a7 a8 b0 b1 b2 b3 b4 r0 r1 r2 r3 r4
    have H := H'
    have Q := Q'
    have R := R'
    have B := B'
    clear H' Q' R' B'
    generalize wc = v at *
    obtain ⟨a0, a1, a2, a3, a4, a5, a6, a7, a8⟩ := id H
    obtain ⟨b0, b1, b2, b3, b4⟩ := id Q
    obtain ⟨r0, r1, r2, r3, r4⟩ := id R
    obtain ⟨m0, m1, m2, m3, m4⟩ := id M
    cases bt
    · go_wp2
      exact bodyPost_ret (v := .tuple #[.agg #[.int .i64 0, .int .i64 0], .int .i64 4]) (by simp (maxDischargeDepth := 6) [results, Tryz.results67, go_sem, *]) rfl ⟨by obtain ⟨e1, e2, e3⟩ := F1.out (by simp); rw [e1, e2, e3], by repeat (first | exact B | refine Below.drew ?_ | refine Below.setCell ?_ (by first | (simp; done) | (simp; omega) | omega) _)⟩
    replace CP := CP.out rfl
    go_wp2_with fail
    go_cut [10, 9] (fun s8 s9 wx => ∃ j : Nat, s8 = .pointer (some ⟨j, 0, none⟩) ∧ s9 = .bool pl ∧ Bx wx j X Y ∧ w.heap.size + 1 < j ∧ Bx wx (w.heap.size + 1) 0 0 ∧ Below w.heap.size w wx)
    case first =>
      refine wp_region_held_drew (S := (fun w' => w'.cell? ⟨k, 1, none⟩ = some (.int .i64 lo) ∧ w'.cell? ⟨k, 2, none⟩ = some (.int .i64 hi) ∧ w'.cell? ⟨jM, 0, none⟩ = some (.int .i64 U) ∧ w'.cell? ⟨jM, 1, none⟩ = some (.int .i64 D))) (by kernel_rfl) ?_ (fun hHeld => ?_)
      · simp (maxDischargeDepth := 6) [go_sem, *]
      clear a0 a1 a2 a3 a4 a5 a6 a7 a8 b0 b1 b2 b3 b4 r0 r1 r2 r3 r4; (try clear n0 n1 n2 n3 n4); (try clear m0 m1 m2 m3 m4)
      replace H := H.drew
      replace Q := Q.drew
      replace R := R.drew
      replace B := B.drew
      (try replace M := M.drew)
      generalize v.drew = v at *
      obtain ⟨a0, a1, a2, a3, a4, a5, a6, a7, a8⟩ := id H; obtain ⟨b0, b1, b2, b3, b4⟩ := id Q; obtain ⟨r0, r1, r2, r3, r4⟩ := id R; (try (obtain ⟨n0, n1, n2, n3, n4⟩ := id N)); (try (obtain ⟨m0, m1, m2, m3, m4⟩ := id M))
      refine wpAnyH_take (i := 0) (v := ?_) (by rw [List.getElem?_toArray]; rfl) (by kernel_rfl) (by kernel_rfl) (by kernel_rfl) (by intro _ _ _ h; exact h) (Or.inl ⟨by rfl, ?_⟩) (by assumption) ?_
      rotate_left
      · (intro w hSw; (try dsimp only at hSw); go_simp; all_goals with_reducible rfl)
      (try simp only [Act.put, List.setIfInBounds_toArray, List.set_cons_zero, List.set_cons_succ])
      refine wpAnyH_take (i := 1) (v := ?_) (by rw [List.getElem?_toArray]; rfl) (by kernel_rfl) (by kernel_rfl) (by kernel_rfl) (by intro _ _ _ h; exact h) (Or.inl ⟨by rfl, ?_⟩) (by assumption) ?_
      rotate_left
      · (intro w hSw; (try dsimp only at hSw); go_simp; all_goals with_reducible rfl)
      (try simp only [Act.put, List.setIfInBounds_toArray, List.set_cons_zero, List.set_cons_succ])
      refine wpAnyH_take (i := 2) (v := ?_) (by rw [List.getElem?_toArray]; rfl) (by kernel_rfl) (by kernel_rfl) (by kernel_rfl) (by intro _ _ _ h; exact h) (Or.inl ⟨by rfl, ?_⟩) (by assumption) ?_
      rotate_left
      · (intro w hSw; (try dsimp only at hSw); go_simp; all_goals with_reducible rfl)
      (try simp only [Act.put, List.setIfInBounds_toArray, List.set_cons_zero, List.set_cons_succ])
      refine wpAnyH_take (i := 3) (v := ?_) (by rw [List.getElem?_toArray]; rfl) (by kernel_rfl) (by kernel_rfl) (by kernel_rfl) (by intro _ _ _ h; exact h) (Or.inl ⟨by rfl, ?_⟩) (by assumption) ?_
      rotate_left
      · (intro w hSw; (try dsimp only at hSw); go_simp; all_goals with_reducible rfl)
      (try simp only [Act.put, List.setIfInBounds_toArray, List.set_cons_zero, List.set_cons_succ])
      refine wpAnyH_take (i := 4) (v := ?_) (by rw [List.getElem?_toArray]; rfl) (by kernel_rfl) (by kernel_rfl) (by kernel_rfl) (by intro _ _ _ h; exact h) (Or.inl ⟨by rfl, ?_⟩) (by assumption) ?_
      rotate_left
      · (intro w hSw; (try dsimp only at hSw); go_simp; all_goals with_reducible rfl)
      (try simp only [Act.put, List.setIfInBounds_toArray, List.set_cons_zero, List.set_cons_succ])
      refine wpAnyH_ready (rs := [5, 9]) (by kernel_rfl) (by simp) ?_
      refine (AllReadyH.cons (by rw [List.getElem?_toArray]; rfl) (fun K hK => ?_) (AllReadyH.cons (by rw [List.getElem?_toArray]; rfl) (fun K hK => ?_) AllReadyH.nil))
      · go_simp
        refine (CP _).mono ?_; rintro e v ⟨rfl, hb⟩; clear a0 a1 a2 a3 a4 a5 a6 a7 a8 b0 b1 b2 b3 b4 r0 r1 r2 r3 r4; (try clear n0 n1 n2 n3 n4); (try clear m0 m1 m2 m3 m4); (replace H := H.below hb); (replace Q := Q.below hb); (replace R := R.below hb); (try (replace N := N.below hb)); (try (replace M := M.below hb)); (replace B := B.trans (hb.mono B.size)); clear hb; obtain ⟨a0, a1, a2, a3, a4, a5, a6, a7, a8⟩ := id H; obtain ⟨b0, b1, b2, b3, b4⟩ := id Q; obtain ⟨r0, r1, r2, r3, r4⟩ := id R; (try (obtain ⟨n0, n1, n2, n3, n4⟩ := id N)); (try (obtain ⟨m0, m1, m2, m3, m4⟩ := id M))
        (try go_wp2_with fail)
        refine hK.out _ _ ?_ (fun hHeld => ?_)
        · simp (maxDischargeDepth := 6) [go_sem, *]
        clear hK K
        (try simp only [Act.put, List.setIfInBounds_toArray, List.set_cons_zero, List.set_cons_succ])
        refine wpAnyH_take (i := 6) (v := ?_) (by rw [List.getElem?_toArray]; rfl) (by kernel_rfl) (by kernel_rfl) (by kernel_rfl) (by intro _ _ _ h; exact h) (Or.inl ⟨by rfl, ?_⟩) (by assumption) ?_
        rotate_left
        · (intro w hSw; (try dsimp only at hSw); go_simp; all_goals with_reducible rfl)
        (try simp only [Act.put, List.setIfInBounds_toArray, List.set_cons_zero, List.set_cons_succ])
        refine wpAnyH_take (i := 7) (v := ?_) (by rw [List.getElem?_toArray]; rfl) (by kernel_rfl) (by kernel_rfl) (by kernel_rfl) (by intro _ _ _ h; exact h) (Or.inl ⟨by rfl, ?_⟩) (by assumption) ?_
        rotate_left
        · (intro w hSw; (try dsimp only at hSw); go_simp; all_goals with_reducible rfl)
        (try simp only [Act.put, List.setIfInBounds_toArray, List.set_cons_zero, List.set_cons_succ])
        refine wpAnyH_take (i := 8) (v := ?_) (by rw [List.getElem?_toArray]; rfl) (by kernel_rfl) (by kernel_rfl) (by kernel_rfl) (by intro _ _ _ h; exact h) (Or.inl ⟨by rfl, ?_⟩) (by assumption) ?_
        rotate_left
        · (intro w hSw; (try dsimp only at hSw); go_simp; all_goals with_reducible rfl)
        (try simp only [Act.put, List.setIfInBounds_toArray, List.set_cons_zero, List.set_cons_succ])
        refine wpAnyH_ready (rs := [9]) (by kernel_rfl) (by simp) ?_
        refine (AllReadyH.cons (by rw [List.getElem?_toArray]; rfl) (fun K hK => ?_) AllReadyH.nil)
        go_simp
        (have N := Bx.new v 0 0 25); (have hj : w.heap.size + 1 < v.heap.size := r0); (try (have hjM : jM < v.heap.size := m0)); clear a0 a1 a2 a3 a4 a5 a6 a7 a8 b0 b1 b2 b3 b4 r0 r1 r2 r3 r4; (try clear n0 n1 n2 n3 n4); (try clear m0 m1 m2 m3 m4); (replace H := H.alloc (.cells #[.int .i64 0, .int .i64 0] 25)); (replace Q := Q.alloc (.cells #[.int .i64 0, .int .i64 0] 25)); (replace R := R.alloc (.cells #[.int .i64 0, .int .i64 0] 25)); (try (replace M := M.alloc (.cells #[.int .i64 0, .int .i64 0] 25))); (replace B := B.alloc B.size (.cells #[.int .i64 0, .int .i64 0] 25)); (generalize v.alloc (.cells #[.int .i64 0, .int .i64 0] 25) = v2 at *); obtain ⟨a0, a1, a2, a3, a4, a5, a6, a7, a8⟩ := id H; obtain ⟨b0, b1, b2, b3, b4⟩ := id Q; obtain ⟨r0, r1, r2, r3, r4⟩ := id R; (try (obtain ⟨n0, n1, n2, n3, n4⟩ := id N)); (try (obtain ⟨m0, m1, m2, m3, m4⟩ := id M))
        refine hK.out _ _ ?_ (fun hHeld => ?_)
        · simp (maxDischargeDepth := 6) [go_sem, *]
        clear hK K
        (try simp only [Act.put, List.setIfInBounds_toArray, List.set_cons_zero, List.set_cons_succ])
        refine wpAnyH_ready (rs := [10]) (by kernel_rfl) (by simp) ?_
        refine (AllReadyH.cons (by rw [List.getElem?_toArray]; rfl) (fun K hK => ?_) AllReadyH.nil)
        go_simp
        refine hK.out _ _ ?_ (fun hHeld => ?_)
        · simp (maxDischargeDepth := 6) [go_sem, *]
        clear hK K
        (try simp only [Act.put, List.setIfInBounds_toArray, List.set_cons_zero, List.set_cons_succ])
        refine wpAnyH_take (i := 11) (v := ?_) (by rw [List.getElem?_toArray]; rfl) (by kernel_rfl) (by kernel_rfl) (by kernel_rfl) (by intro _ _ _ h; exact h) (Or.inl ⟨by rfl, ?_⟩) (by assumption) ?_
        rotate_left
        · (intro w hSw; (try dsimp only at hSw); go_simp; all_goals with_reducible rfl)
        (try simp only [Act.put, List.setIfInBounds_toArray, List.set_cons_zero, List.set_cons_succ])
        refine wpAnyH_done (by kernel_rfl) ?_ _
        go_wp2_with fail
        go_meet
        case rel => exact ⟨_, rfl, rfl, N.setI X Y, hj, R.setIO (by omega) X Y, Below.setI B (by omega) X Y⟩
      · go_simp
        (have N := Bx.new v 0 0 25); (have hj : w.heap.size + 1 < v.heap.size := r0); (try (have hjM : jM < v.heap.size := m0)); clear a0 a1 a2 a3 a4 a5 a6 a7 a8 b0 b1 b2 b3 b4 r0 r1 r2 r3 r4; (try clear n0 n1 n2 n3 n4); (try clear m0 m1 m2 m3 m4); (replace H := H.alloc (.cells #[.int .i64 0, .int .i64 0] 25)); (replace Q := Q.alloc (.cells #[.int .i64 0, .int .i64 0] 25)); (replace R := R.alloc (.cells #[.int .i64 0, .int .i64 0] 25)); (try (replace M := M.alloc (.cells #[.int .i64 0, .int .i64 0] 25))); (replace B := B.alloc B.size (.cells #[.int .i64 0, .int .i64 0] 25)); (generalize v.alloc (.cells #[.int .i64 0, .int .i64 0] 25) = v2 at *); obtain ⟨a0, a1, a2, a3, a4, a5, a6, a7, a8⟩ := id H; obtain ⟨b0, b1, b2, b3, b4⟩ := id Q; obtain ⟨r0, r1, r2, r3, r4⟩ := id R; (try (obtain ⟨n0, n1, n2, n3, n4⟩ := id N)); (try (obtain ⟨m0, m1, m2, m3, m4⟩ := id M))
        refine hK.out _ _ ?_ (fun hHeld => ?_)
        · simp (maxDischargeDepth := 6) [go_sem, *]
        clear hK K
        (try simp only [Act.put, List.setIfInBounds_toArray, List.set_cons_zero, List.set_cons_succ])
        refine wpAnyH_ready (rs := [5]) (by kernel_rfl) (by simp) ?_
        refine (AllReadyH.cons (by rw [List.getElem?_toArray]; rfl) (fun K hK => ?_) AllReadyH.nil)
        go_simp
        refine (CP _).mono ?_; rintro e v ⟨rfl, hb⟩; clear a0 a1 a2 a3 a4 a5 a6 a7 a8 b0 b1 b2 b3 b4 r0 r1 r2 r3 r4; (try clear n0 n1 n2 n3 n4); (try clear m0 m1 m2 m3 m4); (replace H := H.below hb); (replace Q := Q.below hb); (replace R := R.below hb); (try (replace N := N.below hb)); (try (replace M := M.below hb)); (replace B := B.trans (hb.mono B.size)); clear hb; obtain ⟨a0, a1, a2, a3, a4, a5, a6, a7, a8⟩ := id H; obtain ⟨b0, b1, b2, b3, b4⟩ := id Q; obtain ⟨r0, r1, r2, r3, r4⟩ := id R; (try (obtain ⟨n0, n1, n2, n3, n4⟩ := id N)); (try (obtain ⟨m0, m1, m2, m3, m4⟩ := id M))
        (try go_wp2_with fail)
        refine hK.out _ _ ?_ (fun hHeld => ?_)
        · simp (maxDischargeDepth := 6) [go_sem, *]
        clear hK K
        (try simp only [Act.put, List.setIfInBounds_toArray, List.set_cons_zero, List.set_cons_succ])
        refine wpAnyH_take (i := 6) (v := ?_) (by rw [List.getElem?_toArray]; rfl) (by kernel_rfl) (by kernel_rfl) (by kernel_rfl) (by intro _ _ _ h; exact h) (Or.inl ⟨by rfl, ?_⟩) (by assumption) ?_
        rotate_left
        · (intro w hSw; (try dsimp only at hSw); go_simp; all_goals with_reducible rfl)
        (try simp only [Act.put, List.setIfInBounds_toArray, List.set_cons_zero, List.set_cons_succ])
        refine wpAnyH_take (i := 7) (v := ?_) (by rw [List.getElem?_toArray]; rfl) (by kernel_rfl) (by kernel_rfl) (by kernel_rfl) (by intro _ _ _ h; exact h) (Or.inl ⟨by rfl, ?_⟩) (by assumption) ?_
        rotate_left
        · (intro w hSw; (try dsimp only at hSw); go_simp; all_goals with_reducible rfl)
        (try simp only [Act.put, List.setIfInBounds_toArray, List.set_cons_zero, List.set_cons_succ])
        refine wpAnyH_take (i := 8) (v := ?_) (by rw [List.getElem?_toArray]; rfl) (by kernel_rfl) (by kernel_rfl) (by kernel_rfl) (by intro _ _ _ h; exact h) (Or.inl ⟨by rfl, ?_⟩) (by assumption) ?_
        rotate_left
        · (intro w hSw; (try dsimp only at hSw); go_simp; all_goals with_reducible rfl)
        (try simp only [Act.put, List.setIfInBounds_toArray, List.set_cons_zero, List.set_cons_succ])
        refine wpAnyH_ready (rs := [10]) (by kernel_rfl) (by simp) ?_
        refine (AllReadyH.cons (by rw [List.getElem?_toArray]; rfl) (fun K hK => ?_) AllReadyH.nil)
        go_simp
        refine hK.out _ _ ?_ (fun hHeld => ?_)
        · simp (maxDischargeDepth := 6) [go_sem, *]
        clear hK K
        (try simp only [Act.put, List.setIfInBounds_toArray, List.set_cons_zero, List.set_cons_succ])
        refine wpAnyH_take (i := 11) (v := ?_) (by rw [List.getElem?_toArray]; rfl) (by kernel_rfl) (by kernel_rfl) (by kernel_rfl) (by intro _ _ _ h; exact h) (Or.inl ⟨by rfl, ?_⟩) (by assumption) ?_
        rotate_left
        · (intro w hSw; (try dsimp only at hSw); go_simp; all_goals with_reducible rfl)
        (try simp only [Act.put, List.setIfInBounds_toArray, List.set_cons_zero, List.set_cons_succ])
        refine wpAnyH_done (by kernel_rfl) ?_ _
        go_wp2_with fail
        go_meet
        case rel => exact ⟨_, rfl, rfl, N.setI X Y, hj, R.setIO (by omega) X Y, Below.setI B (by omega) X Y⟩
    case rest =>
      obtain ⟨jN, rfl, rfl, N, hjn, R', B'⟩ := hcut
      clear H Q R B M a0 a1 a2 a3 a4 a5 a6 a7 a8 b0 b1 b2 b3 b4 r0 r1 r2 r3 r4 m0 m1 m2 m3 m4 hjm CP CB
      obtain ⟨r0, r1, r2, r3, r4⟩ := id R'
      obtain ⟨n0, n1, n2, n3, n4⟩ := id N
      cases pl
      · go_wp2
        exact bodyPost_ret (v := .tuple #[.agg #[.int .i64 0, .int .i64 0], .int .i64 4]) (by simp (maxDischargeDepth := 6) [results, Tryz.results67, go_sem, *]) rfl ⟨by obtain ⟨e1, e2, e3⟩ := F2.out (by simp) (by simp); rw [e1, e2, e3], by repeat (first | exact B' | refine Below.drew ?_ | refine Below.setCell ?_ (by first | (simp; done) | (simp; omega) | omega) _)⟩
      go_wp2
      exact bodyPost_ret (v := .tuple #[.agg #[.int .i64 X, .int .i64 Y], .int .i64 0]) (by simp (maxDischargeDepth := 6) [results, Tryz.results67, go_sem, *]) rfl ⟨by obtain ⟨e1, e2, e3⟩ := F3.out (by simp) (by simp); rw [e1, e2, e3], by repeat (first | exact B' | refine Below.drew ?_ | refine Below.setCell ?_ (by first | (simp; done) | (simp; omega) | omega) _)⟩
set_option maxHeartbeats 2000000 in
theorem implCarryOn_any (kn : Bool) (lo hi a n d c : Int) (w : World) :
    Calls Tryz.prog 43 #[.agg #[.bool kn, .int .i64 lo, .int .i64 hi, .int .i64 a], .agg #[.int .i64 n, .int .i64 d], .int .i64 c] w fun e w' => e = .returned (.tuple #[.agg #[.int .i64 (crL kn lo hi a n d c), .int .i64 (crH kn lo hi a n d c)], .int .i64 (crC kn lo hi a n d c)]) ∧ Below w.heap.size w w' := by
  have B : Below w.heap.size w (((w.alloc (.cells #[.bool kn, .int .i64 lo, .int .i64 hi, .int .i64 a] 27)).alloc (.cells #[.int .i64 n, .int .i64 d] 29)).alloc (.cells #[.int .i64 0, .int .i64 0] 25)) := ((Below.alc _ _).alloc (by first | (simp; done) | (simp; omega) | omega) _).alloc (by first | (simp; done) | (simp; omega) | omega) _
  have H := ((BoxL.new w kn lo hi a 27).alloc (.cells #[.int .i64 n, .int .i64 d] 29)).alloc (.cells #[.int .i64 0, .int .i64 0] 25)
  have R := Bx.new ((w.alloc (.cells #[.bool kn, .int .i64 lo, .int .i64 hi, .int .i64 a] 27)).alloc (.cells #[.int .i64 n, .int .i64 d] 29)) 0 0 25
  simp only [World.size_alloc] at R
  have CC := fun v H' => carry_any w.heap.size kn lo hi a n d c v H'
  generalize crL kn lo hi a n d c = X at *
  generalize crH kn lo hi a n d c = Y at *
  generalize crC kn lo hi a n d c = Z at *
  go_enter Tryz.func43, Tryz.ntmps43
  go_wp2_with fail
  refine (CC _ H).mono ?_
  rintro e v ⟨rfl, hb⟩
  replace B := B.trans (hb.mono B.size)
  obtain ⟨r0, r1, r2, r3, r4⟩ := R.below hb
  clear hb H R CC
  go_wp2
  exact bodyPost_ret (v := .tuple #[.agg #[.int .i64 X, .int .i64 Y], .int .i64 Z]) (by simp (maxDischargeDepth := 6) [results, Tryz.results43, go_sem, *]) rfl ⟨rfl, by repeat (first | exact B | refine Below.drew ?_ | refine Below.setCell ?_ (by first | (simp; done) | (simp; omega) | omega) _)⟩
end Go.Proofs.YtcakhfobkbgfoaaGreatDoor
namespace Go.Proofs.YtcakhfobkbgfoaaGreatDoor
open Go.RowKit
set_option linter.unusedVariables false
def Tx7 (w : World) (k : Nat) (u0 u1 u2 u3 u4 u5 u6 : Value) : Prop := k < w.heap.size ∧ w.cell? ⟨k, 0, none⟩ = some u0 ∧ w.cell? ⟨k, 1, none⟩ = some u1 ∧ w.cell? ⟨k, 2, none⟩ = some u2 ∧ w.cell? ⟨k, 3, none⟩ = some u3 ∧ w.cell? ⟨k, 4, none⟩ = some u4 ∧ w.cell? ⟨k, 5, none⟩ = some u5 ∧ w.cell? ⟨k, 6, none⟩ = some u6 ∧ w.frozen? ⟨k, 0, none⟩ = false ∧ w.frozen? ⟨k, 1, none⟩ = false ∧ w.frozen? ⟨k, 2, none⟩ = false ∧ w.frozen? ⟨k, 3, none⟩ = false ∧ w.frozen? ⟨k, 4, none⟩ = false ∧ w.frozen? ⟨k, 5, none⟩ = false ∧ w.frozen? ⟨k, 6, none⟩ = false
theorem Tx7.belowB {k B : Nat} {w w' : World} {u0 u1 u2 u3 u4 u5 u6 : Value} (h : Tx7 w k u0 u1 u2 u3 u4 u5 u6) (hw : Below B w w') (hk : k < B) : Tx7 w' k u0 u1 u2 u3 u4 u5 u6 := by
  obtain ⟨h0, h1, h2, h3, h4, h5, h6, h7, f1, f2, f3, f4, f5, f6, f7⟩ := h
  exact ⟨Nat.lt_of_lt_of_le h0 hw.size, by rw [hw.cell (p := ⟨k, 0, none⟩) hk]; exact h1, by rw [hw.cell (p := ⟨k, 1, none⟩) hk]; exact h2, by rw [hw.cell (p := ⟨k, 2, none⟩) hk]; exact h3, by rw [hw.cell (p := ⟨k, 3, none⟩) hk]; exact h4, by rw [hw.cell (p := ⟨k, 4, none⟩) hk]; exact h5, by rw [hw.cell (p := ⟨k, 5, none⟩) hk]; exact h6, by rw [hw.cell (p := ⟨k, 6, none⟩) hk]; exact h7, by rw [hw.frozen (p := ⟨k, 0, none⟩) hk]; exact f1, by rw [hw.frozen (p := ⟨k, 1, none⟩) hk]; exact f2, by rw [hw.frozen (p := ⟨k, 2, none⟩) hk]; exact f3, by rw [hw.frozen (p := ⟨k, 3, none⟩) hk]; exact f4, by rw [hw.frozen (p := ⟨k, 4, none⟩) hk]; exact f5, by rw [hw.frozen (p := ⟨k, 5, none⟩) hk]; exact f6, by rw [hw.frozen (p := ⟨k, 6, none⟩) hk]; exact f7⟩
theorem Tx7.below {k : Nat} {w w' : World} {u0 u1 u2 u3 u4 u5 u6 : Value} (h : Tx7 w k u0 u1 u2 u3 u4 u5 u6) (hw : Below w.heap.size w w') : Tx7 w' k u0 u1 u2 u3 u4 u5 u6 := h.belowB hw h.1
theorem Tx7.but {w w' : World} {k q : Nat} {u0 u1 u2 u3 u4 u5 u6 : Value} (h : Tx7 w k u0 u1 u2 u3 u4 u5 u6) (hb : But q w w') (hq : k ≠ q) : Tx7 w' k u0 u1 u2 u3 u4 u5 u6 := by
  obtain ⟨h0, h1, h2, h3, h4, h5, h6, h7, f1, f2, f3, f4, f5, f6, f7⟩ := h
  exact ⟨Nat.lt_of_lt_of_le h0 hb.2.2.2.1, by rw [hb.cell h0 hq]; exact h1, by rw [hb.cell h0 hq]; exact h2, by rw [hb.cell h0 hq]; exact h3, by rw [hb.cell h0 hq]; exact h4, by rw [hb.cell h0 hq]; exact h5, by rw [hb.cell h0 hq]; exact h6, by rw [hb.cell h0 hq]; exact h7, by rw [hb.frozen h0 hq]; exact f1, by rw [hb.frozen h0 hq]; exact f2, by rw [hb.frozen h0 hq]; exact f3, by rw [hb.frozen h0 hq]; exact f4, by rw [hb.frozen h0 hq]; exact f5, by rw [hb.frozen h0 hq]; exact f6, by rw [hb.frozen h0 hq]; exact f7⟩
theorem Tx7.alloc {k : Nat} {w : World} {u0 u1 u2 u3 u4 u5 u6 : Value} (h : Tx7 w k u0 u1 u2 u3 u4 u5 u6) (o : Obj) : Tx7 (w.alloc o) k u0 u1 u2 u3 u4 u5 u6 := h.below ((Below.refl _ _).alloc (Nat.le_refl _) _)
theorem Tx7.new (w : World) (u0 u1 u2 u3 u4 u5 u6 : Value) (T : TypeId) : Tx7 (w.alloc (.cells #[u0, u1, u2, u3, u4, u5, u6] T)) w.heap.size u0 u1 u2 u3 u4 u5 u6 := ⟨by simp, by simp, by simp, by simp, by simp, by simp, by simp, by simp, by simp, by simp, by simp, by simp, by simp, by simp, by simp⟩
theorem Tx7.drew {k : Nat} {w : World} {u0 u1 u2 u3 u4 u5 u6 : Value} (h : Tx7 w k u0 u1 u2 u3 u4 u5 u6) : Tx7 w.drew k u0 u1 u2 u3 u4 u5 u6 := h
theorem Tx7.setO {k j : Nat} {w : World} {u0 u1 u2 u3 u4 u5 u6 : Value} (h : Tx7 w k u0 u1 u2 u3 u4 u5 u6) (hk : j ≠ k) (o : Nat) (u : Value) : Tx7 (w.setCell ⟨j, o, none⟩ u) k u0 u1 u2 u3 u4 u5 u6 := by
  have hne : ∀ q, (⟨j, o, none⟩ : Addr) ≠ ⟨k, q, none⟩ := fun q e => hk (congrArg Addr.block e)
  obtain ⟨h0, h1, h2, h3, h4, h5, h6, h7, f1, f2, f3, f4, f5, f6, f7⟩ := h
  exact ⟨by simpa using h0, by rw [World.cell?_setCell_other _ _ _ _ (hne _)]; exact h1, by rw [World.cell?_setCell_other _ _ _ _ (hne _)]; exact h2, by rw [World.cell?_setCell_other _ _ _ _ (hne _)]; exact h3, by rw [World.cell?_setCell_other _ _ _ _ (hne _)]; exact h4, by rw [World.cell?_setCell_other _ _ _ _ (hne _)]; exact h5, by rw [World.cell?_setCell_other _ _ _ _ (hne _)]; exact h6, by rw [World.cell?_setCell_other _ _ _ _ (hne _)]; exact h7, by simpa using f1, by simpa using f2, by simpa using f3, by simpa using f4, by simpa using f5, by simpa using f6, by simpa using f7⟩
theorem Tx7.set0 {k : Nat} {w : World} {u0 u1 u2 u3 u4 u5 u6 : Value} (h : Tx7 w k u0 u1 u2 u3 u4 u5 u6) (x : Value) : Tx7 (w.setCell ⟨k, 0, none⟩ x) k x u1 u2 u3 u4 u5 u6 := by
  obtain ⟨h0, h1, h2, h3, h4, h5, h6, h7, f1, f2, f3, f4, f5, f6, f7⟩ := h
  exact ⟨by simpa using h0, World.cell?_setCell_same _ _ _ h1, (World.cell?_setCell_other _ _ _ _ (by simp)).trans h2, (World.cell?_setCell_other _ _ _ _ (by simp)).trans h3, (World.cell?_setCell_other _ _ _ _ (by simp)).trans h4, (World.cell?_setCell_other _ _ _ _ (by simp)).trans h5, (World.cell?_setCell_other _ _ _ _ (by simp)).trans h6, (World.cell?_setCell_other _ _ _ _ (by simp)).trans h7, by simpa using f1, by simpa using f2, by simpa using f3, by simpa using f4, by simpa using f5, by simpa using f6, by simpa using f7⟩
theorem Tx7.set1 {k : Nat} {w : World} {u0 u1 u2 u3 u4 u5 u6 : Value} (h : Tx7 w k u0 u1 u2 u3 u4 u5 u6) (x : Value) : Tx7 (w.setCell ⟨k, 1, none⟩ x) k u0 x u2 u3 u4 u5 u6 := by
  obtain ⟨h0, h1, h2, h3, h4, h5, h6, h7, f1, f2, f3, f4, f5, f6, f7⟩ := h
  exact ⟨by simpa using h0, (World.cell?_setCell_other _ _ _ _ (by simp)).trans h1, World.cell?_setCell_same _ _ _ h2, (World.cell?_setCell_other _ _ _ _ (by simp)).trans h3, (World.cell?_setCell_other _ _ _ _ (by simp)).trans h4, (World.cell?_setCell_other _ _ _ _ (by simp)).trans h5, (World.cell?_setCell_other _ _ _ _ (by simp)).trans h6, (World.cell?_setCell_other _ _ _ _ (by simp)).trans h7, by simpa using f1, by simpa using f2, by simpa using f3, by simpa using f4, by simpa using f5, by simpa using f6, by simpa using f7⟩
theorem Tx7.set2 {k : Nat} {w : World} {u0 u1 u2 u3 u4 u5 u6 : Value} (h : Tx7 w k u0 u1 u2 u3 u4 u5 u6) (x : Value) : Tx7 (w.setCell ⟨k, 2, none⟩ x) k u0 u1 x u3 u4 u5 u6 := by
  obtain ⟨h0, h1, h2, h3, h4, h5, h6, h7, f1, f2, f3, f4, f5, f6, f7⟩ := h
  exact ⟨by simpa using h0, (World.cell?_setCell_other _ _ _ _ (by simp)).trans h1, (World.cell?_setCell_other _ _ _ _ (by simp)).trans h2, World.cell?_setCell_same _ _ _ h3, (World.cell?_setCell_other _ _ _ _ (by simp)).trans h4, (World.cell?_setCell_other _ _ _ _ (by simp)).trans h5, (World.cell?_setCell_other _ _ _ _ (by simp)).trans h6, (World.cell?_setCell_other _ _ _ _ (by simp)).trans h7, by simpa using f1, by simpa using f2, by simpa using f3, by simpa using f4, by simpa using f5, by simpa using f6, by simpa using f7⟩
theorem Tx7.set3 {k : Nat} {w : World} {u0 u1 u2 u3 u4 u5 u6 : Value} (h : Tx7 w k u0 u1 u2 u3 u4 u5 u6) (x : Value) : Tx7 (w.setCell ⟨k, 3, none⟩ x) k u0 u1 u2 x u4 u5 u6 := by
  obtain ⟨h0, h1, h2, h3, h4, h5, h6, h7, f1, f2, f3, f4, f5, f6, f7⟩ := h
  exact ⟨by simpa using h0, (World.cell?_setCell_other _ _ _ _ (by simp)).trans h1, (World.cell?_setCell_other _ _ _ _ (by simp)).trans h2, (World.cell?_setCell_other _ _ _ _ (by simp)).trans h3, World.cell?_setCell_same _ _ _ h4, (World.cell?_setCell_other _ _ _ _ (by simp)).trans h5, (World.cell?_setCell_other _ _ _ _ (by simp)).trans h6, (World.cell?_setCell_other _ _ _ _ (by simp)).trans h7, by simpa using f1, by simpa using f2, by simpa using f3, by simpa using f4, by simpa using f5, by simpa using f6, by simpa using f7⟩
theorem Tx7.set4 {k : Nat} {w : World} {u0 u1 u2 u3 u4 u5 u6 : Value} (h : Tx7 w k u0 u1 u2 u3 u4 u5 u6) (x : Value) : Tx7 (w.setCell ⟨k, 4, none⟩ x) k u0 u1 u2 u3 x u5 u6 := by
  obtain ⟨h0, h1, h2, h3, h4, h5, h6, h7, f1, f2, f3, f4, f5, f6, f7⟩ := h
  exact ⟨by simpa using h0, (World.cell?_setCell_other _ _ _ _ (by simp)).trans h1, (World.cell?_setCell_other _ _ _ _ (by simp)).trans h2, (World.cell?_setCell_other _ _ _ _ (by simp)).trans h3, (World.cell?_setCell_other _ _ _ _ (by simp)).trans h4, World.cell?_setCell_same _ _ _ h5, (World.cell?_setCell_other _ _ _ _ (by simp)).trans h6, (World.cell?_setCell_other _ _ _ _ (by simp)).trans h7, by simpa using f1, by simpa using f2, by simpa using f3, by simpa using f4, by simpa using f5, by simpa using f6, by simpa using f7⟩
theorem Tx7.set5 {k : Nat} {w : World} {u0 u1 u2 u3 u4 u5 u6 : Value} (h : Tx7 w k u0 u1 u2 u3 u4 u5 u6) (x : Value) : Tx7 (w.setCell ⟨k, 5, none⟩ x) k u0 u1 u2 u3 u4 x u6 := by
  obtain ⟨h0, h1, h2, h3, h4, h5, h6, h7, f1, f2, f3, f4, f5, f6, f7⟩ := h
  exact ⟨by simpa using h0, (World.cell?_setCell_other _ _ _ _ (by simp)).trans h1, (World.cell?_setCell_other _ _ _ _ (by simp)).trans h2, (World.cell?_setCell_other _ _ _ _ (by simp)).trans h3, (World.cell?_setCell_other _ _ _ _ (by simp)).trans h4, (World.cell?_setCell_other _ _ _ _ (by simp)).trans h5, World.cell?_setCell_same _ _ _ h6, (World.cell?_setCell_other _ _ _ _ (by simp)).trans h7, by simpa using f1, by simpa using f2, by simpa using f3, by simpa using f4, by simpa using f5, by simpa using f6, by simpa using f7⟩
theorem Tx7.set6 {k : Nat} {w : World} {u0 u1 u2 u3 u4 u5 u6 : Value} (h : Tx7 w k u0 u1 u2 u3 u4 u5 u6) (x : Value) : Tx7 (w.setCell ⟨k, 6, none⟩ x) k u0 u1 u2 u3 u4 u5 x := by
  obtain ⟨h0, h1, h2, h3, h4, h5, h6, h7, f1, f2, f3, f4, f5, f6, f7⟩ := h
  exact ⟨by simpa using h0, (World.cell?_setCell_other _ _ _ _ (by simp)).trans h1, (World.cell?_setCell_other _ _ _ _ (by simp)).trans h2, (World.cell?_setCell_other _ _ _ _ (by simp)).trans h3, (World.cell?_setCell_other _ _ _ _ (by simp)).trans h4, (World.cell?_setCell_other _ _ _ _ (by simp)).trans h5, (World.cell?_setCell_other _ _ _ _ (by simp)).trans h6, World.cell?_setCell_same _ _ _ h7, by simpa using f1, by simpa using f2, by simpa using f3, by simpa using f4, by simpa using f5, by simpa using f6, by simpa using f7⟩
def EW (w : World) : Prop := ErE w 4 ∧ ErE w 2 ∧ ErE w 3 ∧ ErE w 5 ∧ ErE w 6 ∧ ErE w 7 ∧ ErE w 0 ∧ ErE w 8
theorem EW.below {w w' : World} (h : EW w) (hb : Below w.heap.size w w') : EW w' := ⟨h.1.below hb, h.2.1.below hb, h.2.2.1.below hb, h.2.2.2.1.below hb, h.2.2.2.2.1.below hb, h.2.2.2.2.2.1.below hb, h.2.2.2.2.2.2.1.below hb, h.2.2.2.2.2.2.2.below hb⟩
theorem EW.es {w : World} (h : EW w) : ES w := ⟨h.1, h.2.1, h.2.2.1, h.2.2.2.2.2.2.1⟩
theorem EW.em {w : World} (h : EW w) : EM w := h.es.em
set_option maxRecDepth 100000 in
set_option maxHeartbeats 8000000 in
theorem gateFor_any (n d x s g : Int) (a : Option Addr) (m c : Nat) (o : Int) (w : World) :
    Calls Tryz.prog 24 #[.agg #[.int .i64 n, .int .i64 d], .int .i64 x, .agg #[.int .i64 s, .int .i64 g, .slice a m c], .int .i64 o] w fun e w' => e = .returned (.agg #[.int .i64 n, .int .i64 d, .int .i64 x, .int .i64 s, .int .i64 g, .slice a m c, .int .i64 o]) ∧ Below w.heap.size w w' := by
  have A0 := Below.nw w (.cells #[.int .i64 n, .int .i64 d] 29)
  have A1 := Below.nw (w.alloc (.cells #[.int .i64 n, .int .i64 d] 29)) (.cells #[.int .i64 s, .int .i64 g, .slice a m c] 32)
  have A2 := Below.nw ((w.alloc (.cells #[.int .i64 n, .int .i64 d] 29)).alloc (.cells #[.int .i64 s, .int .i64 g, .slice a m c] 32)) (.cells #[.int .i64 0, .int .i64 0, .int .i64 0, .int .i64 0, .int .i64 0, .slice none 0 0, .int .i64 0] 59)
  have D := ((Bx2.new w (.int .i64 n) (.int .i64 d) 29).below A1).below A2
  have N := (Tx3.new (w.alloc (.cells #[.int .i64 n, .int .i64 d] 29)) (.int .i64 s) (.int .i64 g) (.slice a m c) 32).below A2
  have K := Tx7.new ((w.alloc (.cells #[.int .i64 n, .int .i64 d] 29)).alloc (.cells #[.int .i64 s, .int .i64 g, .slice a m c] 32)) (.int .i64 0) (.int .i64 0) (.int .i64 0) (.int .i64 0) (.int .i64 0) (.slice none 0 0) (.int .i64 0) 59
  have B := (A0.trans (A1.mono A0.size)).trans (A2.mono (A0.trans (A1.mono A0.size)).size)
  simp only [World.size_alloc] at N K
  clear A0 A1 A2
  have HK : w.heap.size ≤ w.heap.size + 1 + 1 := by omega
  go_enter Tryz.func24, Tryz.ntmps24
  go_upto_region 1 with fail
  generalize ((w.alloc (.cells #[.int .i64 n, .int .i64 d] 29)).alloc (.cells #[.int .i64 s, .int .i64 g, .slice a m c] 32)).alloc (.cells #[.int .i64 0, .int .i64 0, .int .i64 0, .int .i64 0, .int .i64 0, .slice none 0 0, .int .i64 0] 59) = v at *
  generalize w.heap.size + 1 + 1 = jk at *
  generalize w.heap.size + 1 = jn at *
  obtain ⟨d0, d1, d2, d3, d4⟩ := id D
  obtain ⟨n0, n1, n2, n3, n4, n5, n6⟩ := id N
  obtain ⟨k0, k1, k2, k3, k4, k5, k6, k7, f1, f2, f3, f4, f5, f6, f7⟩ := id K
  go_wp2_with fail
  replace K := ((((((K.set0 (.int .i64 n)).set1 (.int .i64 d)).set2 (.int .i64 x)).set3 (.int .i64 s)).set4 (.int .i64 g)).set5 (.slice a m c)).set6 (.int .i64 o)
  replace B := ((((((B.setCell (p := ⟨jk, 0, none⟩) HK (.int .i64 n)).setCell (p := ⟨jk, 1, none⟩) HK (.int .i64 d)).setCell (p := ⟨jk, 2, none⟩) HK (.int .i64 x)).setCell (p := ⟨jk, 3, none⟩) HK (.int .i64 s)).setCell (p := ⟨jk, 4, none⟩) HK (.int .i64 g)).setCell (p := ⟨jk, 5, none⟩) HK (.slice a m c)).setCell (p := ⟨jk, 6, none⟩) HK (.int .i64 o)
  generalize ((((((v.setCell ⟨jk, 0, none⟩ (.int .i64 n)).setCell ⟨jk, 1, none⟩ (.int .i64 d)).setCell ⟨jk, 2, none⟩ (.int .i64 x)).setCell ⟨jk, 3, none⟩ (.int .i64 s)).setCell ⟨jk, 4, none⟩ (.int .i64 g)).setCell ⟨jk, 5, none⟩ (.slice a m c)).setCell ⟨jk, 6, none⟩ (.int .i64 o) = v2 at *
  clear k0 k1 k2 k3 k4 k5 k6 k7 f1 f2 f3 f4 f5 f6 f7 D N
  clear d0 d1 d2 d3 d4
  clear n0 n1 n2 n3 n4 n5 n6
  obtain ⟨k0, k1, k2, k3, k4, k5, k6, k7, f1, f2, f3, f4, f5, f6, f7⟩ := id K
  exact bodyPost_ret (v := (.agg #[.int .i64 n, .int .i64 d, .int .i64 x, .int .i64 s, .int .i64 g, .slice a m c, .int .i64 o])) (by simp (maxDischargeDepth := 6) [results, Tryz.results24, go_sem, *]) rfl ⟨rfl, B⟩
/- What the gate's faults come to. -/
theorem ga_iv {lo hi n d x : Int} {pl : Bool} {o : Int} (h : okI lo hi = false) : gaP true lo hi n d x pl o = false := by unfold gaP; rw [h]; rfl
theorem ga_pl {kn : Bool} {lo hi n d x : Int} {pl : Bool} {o : Int} (h : pl = false) : gaP kn lo hi n d x pl o = false := by unfold gaP; rw [h]; simp
theorem ga_nd {kn : Bool} {lo hi n d x : Int} {pl : Bool} {o : Int} (h : nodB o = false) : gaP kn lo hi n d x pl o = false := by unfold gaP; rw [h]; simp
theorem ga_fr {kn : Bool} {lo hi n d x : Int} {pl : Bool} {o : Int} (hk : (!kn || okI lo hi) = true) (h : pl = true) (h2 : nodB o = true) : gaP kn lo hi n d x pl o = frB n d x := by unfold gaP frB; rw [hk, h, h2]; simp
set_option maxRecDepth 100000 in
set_option maxHeartbeats 16000000 in
theorem gateFault_any (kn : Bool) (lo hi n d x s g : Int) (a : Option Addr) (m c : Nat) (M : Nat → SlT) (o : Int) (w : World) (E : EW w) (hm : m ≤ maxLen) (hs : SrcC w a (m * 2) (MFSlot M)) :
    Calls Tryz.prog 57 #[.agg #[.int .i64 n, .int .i64 d, .int .i64 x, .int .i64 s, .int .i64 g, .slice a m c, .int .i64 o], .agg #[.int .i64 lo, .int .i64 hi], .bool kn] w fun e w' => (∃ v, e = .returned v ∧ Fv (gaP kn lo hi n d x (plB s g M m) o) v) ∧ Below w.heap.size w w' := by
  have A0 := Below.nw w (.cells #[.int .i64 n, .int .i64 d, .int .i64 x, .int .i64 s, .int .i64 g, .slice a m c, .int .i64 o] 59)
  have A1 := Below.nw (w.alloc (.cells #[.int .i64 n, .int .i64 d, .int .i64 x, .int .i64 s, .int .i64 g, .slice a m c, .int .i64 o] 59)) (.cells #[.int .i64 lo, .int .i64 hi] 25)
  have G := (Tx7.new w (.int .i64 n) (.int .i64 d) (.int .i64 x) (.int .i64 s) (.int .i64 g) (.slice a m c) (.int .i64 o) 59).below A1
  have P := Bx2.new (w.alloc (.cells #[.int .i64 n, .int .i64 d, .int .i64 x, .int .i64 s, .int .i64 g, .slice a m c, .int .i64 o] 59)) (.int .i64 lo) (.int .i64 hi) 25
  have B := A0.trans (A1.mono A0.size)
  simp only [World.size_alloc] at P
  clear A0 A1
  have HS : Hid (SrcC w a (m * 2) (MFSlot M)) := hs
  clear hs
  have CI := fun w' => ok_any lo hi w'
  have CP := fun w' h => planOk_any s g a m c M w' hm h
  have CO := fun w' => isNode_any o w'
  have CF := fun w' E => outFault_any n d x w' E
  cases kn
  · clear CI
    cases h2 : plB s g M m
    · have HF : Hid (gaP false lo hi n d x false o = false) := ga_pl rfl
      rw [h2] at CP
      clear h2 CO CF
      go_enter Tryz.func57, Tryz.ntmps57; go_upto_region 1 with fail; generalize (w.alloc (.cells #[.int .i64 n, .int .i64 d, .int .i64 x, .int .i64 s, .int .i64 g, .slice a m c, .int .i64 o] 59)).alloc (.cells #[.int .i64 lo, .int .i64 hi] 25) = v at *; generalize w.heap.size + 1 = jp at *
      obtain ⟨p0, p1, p2, p3, p4⟩ := id P; obtain ⟨g0, g1, g2, g3, g4, g5, g6, g7, f1, f2, f3, f4, f5, f6, f7⟩ := id G; go_wp2_with fail; refine (CP _ (HS.out.below B)).mono ?_; rintro e v2 ⟨rfl, hb⟩; clear g0 g1 g2 g3 g4 g5 g6 g7 f1 f2 f3 f4 f5 f6 f7; clear p0 p1 p2 p3 p4; replace G := G.below hb; replace P := P.below hb; replace B := B.trans (hb.mono B.size); clear hb; clear CP
      obtain ⟨a1, q1⟩ := (E.2.2.2.1.below B).cell; go_wp2_with fail; go_ret; exact ⟨⟨_, rfl, fv_no HF.out a1⟩, B⟩
    cases h3 : nodB o
    · have HF : Hid (gaP false lo hi n d x true o = false) := ga_nd h3
      rw [h2] at CP
      rw [h3] at CO
      clear h2 h3 CF
      go_enter Tryz.func57, Tryz.ntmps57; go_upto_region 1 with fail; generalize (w.alloc (.cells #[.int .i64 n, .int .i64 d, .int .i64 x, .int .i64 s, .int .i64 g, .slice a m c, .int .i64 o] 59)).alloc (.cells #[.int .i64 lo, .int .i64 hi] 25) = v at *; generalize w.heap.size + 1 = jp at *
      obtain ⟨p0, p1, p2, p3, p4⟩ := id P; obtain ⟨g0, g1, g2, g3, g4, g5, g6, g7, f1, f2, f3, f4, f5, f6, f7⟩ := id G; go_wp2_with fail; refine (CP _ (HS.out.below B)).mono ?_; rintro e v2 ⟨rfl, hb⟩; clear g0 g1 g2 g3 g4 g5 g6 g7 f1 f2 f3 f4 f5 f6 f7; clear p0 p1 p2 p3 p4; replace G := G.below hb; replace P := P.below hb; replace B := B.trans (hb.mono B.size); clear hb; clear CP
      obtain ⟨g0, g1, g2, g3, g4, g5, g6, g7, f1, f2, f3, f4, f5, f6, f7⟩ := id G; go_wp2_with fail; refine (CO _).mono ?_; rintro e w' ⟨rfl, rfl⟩; clear g0 g1 g2 g3 g4 g5 g6 g7 f1 f2 f3 f4 f5 f6 f7; clear CO
      obtain ⟨a1, q1⟩ := (E.2.2.2.2.1.below B).cell; go_wp2_with fail; go_ret; exact ⟨⟨_, rfl, fv_no HF.out a1⟩, B⟩
    have HF : Hid (gaP false lo hi n d x true o = frB n d x) := ga_fr rfl rfl h3
    rw [h2] at CP
    rw [h3] at CO
    clear h2 h3
    go_enter Tryz.func57, Tryz.ntmps57; go_upto_region 1 with fail; generalize (w.alloc (.cells #[.int .i64 n, .int .i64 d, .int .i64 x, .int .i64 s, .int .i64 g, .slice a m c, .int .i64 o] 59)).alloc (.cells #[.int .i64 lo, .int .i64 hi] 25) = v at *; generalize w.heap.size + 1 = jp at *
    obtain ⟨p0, p1, p2, p3, p4⟩ := id P; obtain ⟨g0, g1, g2, g3, g4, g5, g6, g7, f1, f2, f3, f4, f5, f6, f7⟩ := id G; go_wp2_with fail; refine (CP _ (HS.out.below B)).mono ?_; rintro e v2 ⟨rfl, hb⟩; clear g0 g1 g2 g3 g4 g5 g6 g7 f1 f2 f3 f4 f5 f6 f7; clear p0 p1 p2 p3 p4; replace G := G.below hb; replace P := P.below hb; replace B := B.trans (hb.mono B.size); clear hb; clear CP
    obtain ⟨g0, g1, g2, g3, g4, g5, g6, g7, f1, f2, f3, f4, f5, f6, f7⟩ := id G; go_wp2_with fail; refine (CO _).mono ?_; rintro e w' ⟨rfl, rfl⟩; clear g0 g1 g2 g3 g4 g5 g6 g7 f1 f2 f3 f4 f5 f6 f7; clear CO
    obtain ⟨g0, g1, g2, g3, g4, g5, g6, g7, f1, f2, f3, f4, f5, f6, f7⟩ := id G; go_wp2_with fail; refine (CF _ (E.em.below B)).mono ?_; rintro e v4 ⟨⟨u, rfl, hv⟩, hb⟩; clear g0 g1 g2 g3 g4 g5 g6 g7 f1 f2 f3 f4 f5 f6 f7; replace G := G.below hb; replace P := P.below hb; replace B := B.trans (hb.mono B.size); clear hb; clear CF; go_wp2_with fail; go_ret; exact ⟨⟨_, rfl, by rw [HF.out]; exact hv⟩, B⟩
  · cases h1 : okI lo hi
    · have HF : Hid (gaP true lo hi n d x (plB s g M m) o = false) := ga_iv h1
      rw [h1] at CI
      clear h1 CP CO CF
      go_enter Tryz.func57, Tryz.ntmps57; go_upto_region 1 with fail; generalize (w.alloc (.cells #[.int .i64 n, .int .i64 d, .int .i64 x, .int .i64 s, .int .i64 g, .slice a m c, .int .i64 o] 59)).alloc (.cells #[.int .i64 lo, .int .i64 hi] 25) = v at *; generalize w.heap.size + 1 = jp at *
      obtain ⟨p0, p1, p2, p3, p4⟩ := id P; go_wp2_with fail; refine (CI _).mono ?_; rintro e v1 ⟨rfl, hb⟩; clear p0 p1 p2 p3 p4; replace G := G.below hb; replace P := P.below hb; replace B := B.trans (hb.mono B.size); clear hb; clear CI
      obtain ⟨a1, q1⟩ := (E.1.below B).cell; go_wp2_with fail; go_ret; exact ⟨⟨_, rfl, fv_no HF.out a1⟩, B⟩
    rw [h1] at CI
    cases h2 : plB s g M m
    · have HF : Hid (gaP true lo hi n d x false o = false) := ga_pl rfl
      rw [h2] at CP
      clear h1 h2 CO CF
      go_enter Tryz.func57, Tryz.ntmps57; go_upto_region 1 with fail; generalize (w.alloc (.cells #[.int .i64 n, .int .i64 d, .int .i64 x, .int .i64 s, .int .i64 g, .slice a m c, .int .i64 o] 59)).alloc (.cells #[.int .i64 lo, .int .i64 hi] 25) = v at *; generalize w.heap.size + 1 = jp at *
      obtain ⟨p0, p1, p2, p3, p4⟩ := id P; go_wp2_with fail; refine (CI _).mono ?_; rintro e v1 ⟨rfl, hb⟩; clear p0 p1 p2 p3 p4; replace G := G.below hb; replace P := P.below hb; replace B := B.trans (hb.mono B.size); clear hb; clear CI
      obtain ⟨g0, g1, g2, g3, g4, g5, g6, g7, f1, f2, f3, f4, f5, f6, f7⟩ := id G; go_wp2_with fail; refine (CP _ (HS.out.below B)).mono ?_; rintro e v2 ⟨rfl, hb⟩; clear g0 g1 g2 g3 g4 g5 g6 g7 f1 f2 f3 f4 f5 f6 f7; replace G := G.below hb; replace P := P.below hb; replace B := B.trans (hb.mono B.size); clear hb; clear CP
      obtain ⟨a1, q1⟩ := (E.2.2.2.1.below B).cell; go_wp2_with fail; go_ret; exact ⟨⟨_, rfl, fv_no HF.out a1⟩, B⟩
    cases h3 : nodB o
    · have HF : Hid (gaP true lo hi n d x true o = false) := ga_nd h3
      rw [h2] at CP
      rw [h3] at CO
      clear h1 h2 h3 CF
      go_enter Tryz.func57, Tryz.ntmps57; go_upto_region 1 with fail; generalize (w.alloc (.cells #[.int .i64 n, .int .i64 d, .int .i64 x, .int .i64 s, .int .i64 g, .slice a m c, .int .i64 o] 59)).alloc (.cells #[.int .i64 lo, .int .i64 hi] 25) = v at *; generalize w.heap.size + 1 = jp at *
      obtain ⟨p0, p1, p2, p3, p4⟩ := id P; go_wp2_with fail; refine (CI _).mono ?_; rintro e v1 ⟨rfl, hb⟩; clear p0 p1 p2 p3 p4; replace G := G.below hb; replace P := P.below hb; replace B := B.trans (hb.mono B.size); clear hb; clear CI
      obtain ⟨g0, g1, g2, g3, g4, g5, g6, g7, f1, f2, f3, f4, f5, f6, f7⟩ := id G; go_wp2_with fail; refine (CP _ (HS.out.below B)).mono ?_; rintro e v2 ⟨rfl, hb⟩; clear g0 g1 g2 g3 g4 g5 g6 g7 f1 f2 f3 f4 f5 f6 f7; replace G := G.below hb; replace P := P.below hb; replace B := B.trans (hb.mono B.size); clear hb; clear CP
      obtain ⟨g0, g1, g2, g3, g4, g5, g6, g7, f1, f2, f3, f4, f5, f6, f7⟩ := id G; go_wp2_with fail; refine (CO _).mono ?_; rintro e w' ⟨rfl, rfl⟩; clear g0 g1 g2 g3 g4 g5 g6 g7 f1 f2 f3 f4 f5 f6 f7; clear CO
      obtain ⟨a1, q1⟩ := (E.2.2.2.2.1.below B).cell; go_wp2_with fail; go_ret; exact ⟨⟨_, rfl, fv_no HF.out a1⟩, B⟩
    have HF : Hid (gaP true lo hi n d x true o = frB n d x) := ga_fr (by rw [h1]; rfl) rfl h3
    rw [h2] at CP
    rw [h3] at CO
    clear h1 h2 h3
    go_enter Tryz.func57, Tryz.ntmps57; go_upto_region 1 with fail; generalize (w.alloc (.cells #[.int .i64 n, .int .i64 d, .int .i64 x, .int .i64 s, .int .i64 g, .slice a m c, .int .i64 o] 59)).alloc (.cells #[.int .i64 lo, .int .i64 hi] 25) = v at *; generalize w.heap.size + 1 = jp at *
    obtain ⟨p0, p1, p2, p3, p4⟩ := id P; go_wp2_with fail; refine (CI _).mono ?_; rintro e v1 ⟨rfl, hb⟩; clear p0 p1 p2 p3 p4; replace G := G.below hb; replace P := P.below hb; replace B := B.trans (hb.mono B.size); clear hb; clear CI
    obtain ⟨g0, g1, g2, g3, g4, g5, g6, g7, f1, f2, f3, f4, f5, f6, f7⟩ := id G; go_wp2_with fail; refine (CP _ (HS.out.below B)).mono ?_; rintro e v2 ⟨rfl, hb⟩; clear g0 g1 g2 g3 g4 g5 g6 g7 f1 f2 f3 f4 f5 f6 f7; replace G := G.below hb; replace P := P.below hb; replace B := B.trans (hb.mono B.size); clear hb; clear CP
    obtain ⟨g0, g1, g2, g3, g4, g5, g6, g7, f1, f2, f3, f4, f5, f6, f7⟩ := id G; go_wp2_with fail; refine (CO _).mono ?_; rintro e w' ⟨rfl, rfl⟩; clear g0 g1 g2 g3 g4 g5 g6 g7 f1 f2 f3 f4 f5 f6 f7; clear CO
    obtain ⟨g0, g1, g2, g3, g4, g5, g6, g7, f1, f2, f3, f4, f5, f6, f7⟩ := id G; go_wp2_with fail; refine (CF _ (E.em.below B)).mono ?_; rintro e v4 ⟨⟨u, rfl, hv⟩, hb⟩; clear g0 g1 g2 g3 g4 g5 g6 g7 f1 f2 f3 f4 f5 f6 f7; replace G := G.below hb; replace P := P.below hb; replace B := B.trans (hb.mono B.size); clear hb; clear CF; go_wp2_with fail; go_ret; exact ⟨⟨_, rfl, by rw [HF.out]; exact hv⟩, B⟩
/- Where a frame goes: told, or not. -/
def plQ (kn : Bool) (lo hi n d x s g : Int) (M : Nat → SlT) (m : Nat) (o : Int) : Bool := kn && (gsB lo hi n d x && isB s g M m o (gsL lo hi n d x) (gsH lo hi n d x))
def plI (kn : Bool) (lo hi n d x s g : Int) (M : Nat → SlT) (m : Nat) (o : Int) : Int := sel (plQ kn lo hi n d x s g M m o) (isI s g M m o (gsL lo hi n d x) (gsH lo hi n d x))
def plK (kn : Bool) (lo hi n d x s g : Int) (M : Nat → SlT) (m : Nat) (o : Int) : Int := sel (plQ kn lo hi n d x s g M m o) (isK s g M m o (gsL lo hi n d x) (gsH lo hi n d x))
theorem pl_no {kn : Bool} {lo hi n d x s g : Int} {M : Nat → SlT} {m : Nat} {o : Int} (e : plQ kn lo hi n d x s g M m o = false) : plI kn lo hi n d x s g M m o = 0 ∧ plK kn lo hi n d x s g M m o = 0 := ⟨sel_f e _, sel_f e _⟩
theorem pl_yes {kn : Bool} {lo hi n d x s g : Int} {M : Nat → SlT} {m : Nat} {o : Int} (e : plQ kn lo hi n d x s g M m o = true) : plI kn lo hi n d x s g M m o = isI s g M m o (gsL lo hi n d x) (gsH lo hi n d x) ∧ plK kn lo hi n d x s g M m o = isK s g M m o (gsL lo hi n d x) (gsH lo hi n d x) := ⟨sel_t e _, sel_t e _⟩
set_option maxRecDepth 100000 in
set_option maxHeartbeats 16000000 in
theorem gatePlace_any (kn : Bool) (lo hi n d x s g : Int) (a : Option Addr) (m c : Nat) (M : Nat → SlT) (o : Int) (w : World) (E : EW w) (hm : m ≤ maxLen) (hs : SrcC w a (m * 2) (MFSlot M)) :
    Calls Tryz.prog 58 #[.agg #[.int .i64 n, .int .i64 d, .int .i64 x, .int .i64 s, .int .i64 g, .slice a m c, .int .i64 o], .agg #[.int .i64 lo, .int .i64 hi], .bool kn] w fun e w' => (∃ v, e = .returned (.tuple #[.int .i64 (plI kn lo hi n d x s g M m o), .int .i64 (plK kn lo hi n d x s g M m o), v]) ∧ Fv (plQ kn lo hi n d x s g M m o) v) ∧ Below w.heap.size w w' := by
  have A0 := Below.nw w (.cells #[.int .i64 n, .int .i64 d, .int .i64 x, .int .i64 s, .int .i64 g, .slice a m c, .int .i64 o] 59)
  have A1 := Below.nw (w.alloc (.cells #[.int .i64 n, .int .i64 d, .int .i64 x, .int .i64 s, .int .i64 g, .slice a m c, .int .i64 o] 59)) (.cells #[.int .i64 lo, .int .i64 hi] 25)
  have G := (Tx7.new w (.int .i64 n) (.int .i64 d) (.int .i64 x) (.int .i64 s) (.int .i64 g) (.slice a m c) (.int .i64 o) 59).below A1
  have P := Bx2.new (w.alloc (.cells #[.int .i64 n, .int .i64 d, .int .i64 x, .int .i64 s, .int .i64 g, .slice a m c, .int .i64 o] 59)) (.int .i64 lo) (.int .i64 hi) 25
  have B := A0.trans (A1.mono A0.size)
  simp only [World.size_alloc] at P
  clear A0 A1
  have HS : Hid (SrcC w a (m * 2) (MFSlot M)) := hs
  clear hs
  have CW := fun w' E => outSpan_any lo hi n d x w' E
  have CS := fun w' h => implInSlot_any s g a m c M o (gsL lo hi n d x) (gsH lo hi n d x) w' hm h
  have nN := neNo
  have nY := neYes
  cases kn
  · have HF : Hid (plQ false lo hi n d x s g M m o = false) := rfl
    rw [(pl_no HF.out).1, (pl_no HF.out).2]
    clear CW CS
    go_enter Tryz.func58, Tryz.ntmps58; go_upto_region 1 with fail; generalize (w.alloc (.cells #[.int .i64 n, .int .i64 d, .int .i64 x, .int .i64 s, .int .i64 g, .slice a m c, .int .i64 o] 59)).alloc (.cells #[.int .i64 lo, .int .i64 hi] 25) = v at *; generalize w.heap.size + 1 = jp at *
    obtain ⟨a1, q1⟩ := (E.2.2.2.2.2.1.below B).cell
    go_wp2_with fail
    go_quiet (fail)
    go_wp2_with fail
    exact bodyPost_ret (v := (.tuple #[.int .i64 0, .int .i64 0, (.iface 146 (.pointer (some a1)))])) (by simp (maxDischargeDepth := 6) [results, Tryz.results58, go_sem, *]) rfl ⟨⟨_, rfl, fv_no HF.out a1⟩, below_dq B nq⟩
  have HQ : Hid (plQ true lo hi n d x s g M m o = (gsB lo hi n d x && isB s g M m o (gsL lo hi n d x) (gsH lo hi n d x))) := by unfold Hid plQ; rfl
  have HN : Hid (plQ true lo hi n d x s g M m o = false → plI true lo hi n d x s g M m o = 0 ∧ plK true lo hi n d x s g M m o = 0) := pl_no
  have HY : Hid (plQ true lo hi n d x s g M m o = true → plI true lo hi n d x s g M m o = isI s g M m o (gsL lo hi n d x) (gsH lo hi n d x) ∧ plK true lo hi n d x s g M m o = isK s g M m o (gsL lo hi n d x) (gsH lo hi n d x)) := pl_yes
  generalize plQ true lo hi n d x s g M m o = QB at *
  generalize plI true lo hi n d x s g M m o = QI at *
  generalize plK true lo hi n d x s g M m o = QK at *
  generalize gsL lo hi n d x = X at *
  generalize gsH lo hi n d x = Y at *
  generalize gsB lo hi n d x = Q at *
  go_enter Tryz.func58, Tryz.ntmps58; go_upto_region 1 with fail; generalize (w.alloc (.cells #[.int .i64 n, .int .i64 d, .int .i64 x, .int .i64 s, .int .i64 g, .slice a m c, .int .i64 o] 59)).alloc (.cells #[.int .i64 lo, .int .i64 hi] 25) = v at *; generalize w.heap.size + 1 = jp at *
  obtain ⟨g0, g1, g2, g3, g4, g5, g6, g7, f1, f2, f3, f4, f5, f6, f7⟩ := id G
  obtain ⟨p0, p1, p2, p3, p4⟩ := id P
  go_wp2_with fail
  refine (CW _ (E.es.below B)).mono ?_
  rintro e v1 ⟨⟨u, rfl, hv⟩, hb⟩
  clear g0 g1 g2 g3 g4 g5 g6 g7 f1 f2 f3 f4 f5 f6 f7
  clear p0 p1 p2 p3 p4
  replace G := G.below hb; replace P := P.below hb; replace B := B.trans (hb.mono B.size); clear hb
  clear CW P
  have NL := Below.nw v1 (.cells #[.int .i64 X, .int .i64 Y] 25)
  have Z := Bx2.new v1 (.int .i64 X) (.int .i64 Y) 25
  cases Q
  · obtain ⟨a1, rfl⟩ := hv
    obtain rfl : QB = false := HQ.out
    obtain ⟨rfl, rfl⟩ := HN.out rfl
    clear HQ HN HY CS
    replace B := B.trans (NL.mono B.size)
    clear Z NL
    go_wp2_with fail
    exact bodyPost_ret (v := (.tuple #[.int .i64 0, .int .i64 0, (.iface 146 (.pointer (some a1)))])) (by simp (maxDischargeDepth := 6) [results, Tryz.results58, go_sem, *]) rfl ⟨⟨_, rfl, fv_no rfl a1⟩, B⟩
  obtain rfl := hv
  go_upto_region 4 with fail
  replace G := G.below NL
  replace B := B.trans (NL.mono B.size)
  clear NL
  generalize v1.alloc (.cells #[.int .i64 X, .int .i64 Y] 25) = v2 at *
  generalize v1.heap.size = jz at *
  obtain ⟨g0, g1, g2, g3, g4, g5, g6, g7, f1, f2, f3, f4, f5, f6, f7⟩ := id G
  obtain ⟨z0, z1, z2, z3, z4⟩ := id Z
  go_wp2_with fail
  refine (CS _ (HS.out.below B)).mono ?_
  rintro e v3 ⟨rfl, hb⟩
  clear g0 g1 g2 g3 g4 g5 g6 g7 f1 f2 f3 f4 f5 f6 f7
  clear z0 z1 z2 z3 z4
  replace B := B.trans (hb.mono B.size)
  clear hb CS Z G
  generalize isI s g M m o X Y = iI at *
  generalize isK s g M m o X Y = iK at *
  generalize isB s g M m o X Y = iB at *
  cases iB
  · obtain rfl : QB = false := HQ.out
    obtain ⟨rfl, rfl⟩ := HN.out rfl
    clear HQ HN HY
    obtain ⟨a1, q1⟩ := (E.2.2.2.2.2.2.2.below B).cell
    go_wp2_with fail
    go_quiet (fail)
    go_wp2_with fail
    exact bodyPost_ret (v := (.tuple #[.int .i64 0, .int .i64 0, (.iface 146 (.pointer (some a1)))])) (by simp (maxDischargeDepth := 6) [results, Tryz.results58, go_sem, *]) rfl ⟨⟨_, rfl, fv_no rfl a1⟩, below_dq B nq⟩
  · obtain rfl : QB = true := HQ.out
    obtain ⟨rfl, rfl⟩ := HY.out rfl
    clear HQ HN HY
    go_wp2_with fail
    exact bodyPost_ret (v := (.tuple #[.int .i64 QI, .int .i64 QK, .nilIface])) (by simp (maxDischargeDepth := 6) [results, Tryz.results58, go_sem, *]) rfl ⟨⟨_, rfl, fv_yes rfl⟩, B⟩
/- What the gate answers: no error where it goes, a refusal with the code that applies where it doesn't. -/
def Av (c : Int) (v : Value) : Prop := (c = 0 ∧ v = .nilIface) ∨ (¬ c = 0 ∧ ∃ a : Addr, v = .iface 76 (.agg #[.int .i64 c, .iface 146 (.pointer (some a))]))
set_option maxRecDepth 100000 in
set_option maxHeartbeats 16000000 in
theorem gateAsk_any (kn : Bool) (lo hi n d x s g : Int) (a : Option Addr) (m c : Nat) (M : Nat → SlT) (o : Int) (w : World) (E : EW w) (hm : m ≤ maxLen) (hs : SrcC w a (m * 2) (MFSlot M)) :
    Calls Tryz.prog 35 #[.agg #[.int .i64 n, .int .i64 d, .int .i64 x, .int .i64 s, .int .i64 g, .slice a m c, .int .i64 o], .agg #[.int .i64 lo, .int .i64 hi], .bool kn] w fun e w' => (∃ v, e = .returned (.tuple #[.int .i64 (gaI kn lo hi n d x s g M m o), .int .i64 (gaK kn lo hi n d x s g M m o), v]) ∧ Av (gaC kn lo hi n d x s g M m o) v) ∧ Below w.heap.size w w' := by
  have A0 := Below.nw w (.cells #[.int .i64 n, .int .i64 d, .int .i64 x, .int .i64 s, .int .i64 g, .slice a m c, .int .i64 o] 59)
  have A1 := Below.nw (w.alloc (.cells #[.int .i64 n, .int .i64 d, .int .i64 x, .int .i64 s, .int .i64 g, .slice a m c, .int .i64 o] 59)) (.cells #[.int .i64 lo, .int .i64 hi] 25)
  have G := (Tx7.new w (.int .i64 n) (.int .i64 d) (.int .i64 x) (.int .i64 s) (.int .i64 g) (.slice a m c) (.int .i64 o) 59).below A1
  have P := Bx2.new (w.alloc (.cells #[.int .i64 n, .int .i64 d, .int .i64 x, .int .i64 s, .int .i64 g, .slice a m c, .int .i64 o] 59)) (.int .i64 lo) (.int .i64 hi) 25
  have B := A0.trans (A1.mono A0.size)
  simp only [World.size_alloc] at P
  clear A0 A1
  have HS : Hid (SrcC w a (m * 2) (MFSlot M)) := hs
  clear hs
  have CF := fun w' E h => gateFault_any kn lo hi n d x s g a m c M o w' E hm h
  have CL := fun w' E h => gatePlace_any kn lo hi n d x s g a m c M o w' E hm h
  have nN := neNo
  have nY := neYes
  cases h1 : gaP kn lo hi n d x (plB s g M m) o
  · have HR : Hid (gaC kn lo hi n d x s g M m o = 1 ∧ gaI kn lo hi n d x s g M m o = 0 ∧ gaK kn lo hi n d x s g M m o = 0) := ga_bad h1
    rw [HR.out.2.1, HR.out.2.2]
    rw [h1] at CF
    clear h1 CL
    go_enter Tryz.func35, Tryz.ntmps35; go_upto_region 1 with fail; generalize (w.alloc (.cells #[.int .i64 n, .int .i64 d, .int .i64 x, .int .i64 s, .int .i64 g, .slice a m c, .int .i64 o] 59)).alloc (.cells #[.int .i64 lo, .int .i64 hi] 25) = v at *; generalize w.heap.size + 1 = jp at *
    obtain ⟨g0, g1, g2, g3, g4, g5, g6, g7, f1, f2, f3, f4, f5, f6, f7⟩ := id G
    obtain ⟨p0, p1, p2, p3, p4⟩ := id P
    go_wp2_with fail
    refine (CF _ (E.below B) (HS.out.below B)).mono ?_
    rintro e v1 ⟨⟨u, rfl, a1, rfl⟩, hb⟩
    clear g0 g1 g2 g3 g4 g5 g6 g7 f1 f2 f3 f4 f5 f6 f7
    clear p0 p1 p2 p3 p4
    replace G := G.below hb; replace P := P.below hb; replace B := B.trans (hb.mono B.size); clear hb
    go_wp2_with fail
    exact bodyPost_ret (v := (.tuple #[.int .i64 0, .int .i64 0, (.iface 76 (.agg #[.int .i64 1, .iface 146 (.pointer (some a1))]))])) (by simp (maxDischargeDepth := 6) [results, Tryz.results35, go_sem, *]) rfl ⟨⟨_, rfl, by rw [HR.out.1]; exact .inr ⟨by decide, a1, rfl⟩⟩, B⟩
  have hG : gaG kn lo hi n d x s g M m o = plQ kn lo hi n d x s g M m o := by unfold gaG plQ; rw [h1]; rfl
  rw [h1] at CF
  cases h2 : plQ kn lo hi n d x s g M m o
  · have HR : Hid (gaC kn lo hi n d x s g M m o = 2 ∧ gaI kn lo hi n d x s g M m o = 0 ∧ gaK kn lo hi n d x s g M m o = 0) := ga_un h1 (hG.trans h2)
    rw [HR.out.2.1, HR.out.2.2]
    rw [(pl_no h2).1, (pl_no h2).2, h2] at CL
    clear h1 h2 hG
    go_enter Tryz.func35, Tryz.ntmps35; go_upto_region 1 with fail; generalize (w.alloc (.cells #[.int .i64 n, .int .i64 d, .int .i64 x, .int .i64 s, .int .i64 g, .slice a m c, .int .i64 o] 59)).alloc (.cells #[.int .i64 lo, .int .i64 hi] 25) = v at *; generalize w.heap.size + 1 = jp at *
    obtain ⟨g0, g1, g2, g3, g4, g5, g6, g7, f1, f2, f3, f4, f5, f6, f7⟩ := id G
    obtain ⟨p0, p1, p2, p3, p4⟩ := id P
    go_wp2_with fail
    refine (CF _ (E.below B) (HS.out.below B)).mono ?_
    rintro e v1 ⟨⟨u, rfl, rfl⟩, hb⟩
    clear g0 g1 g2 g3 g4 g5 g6 g7 f1 f2 f3 f4 f5 f6 f7
    clear p0 p1 p2 p3 p4
    replace G := G.below hb; replace P := P.below hb; replace B := B.trans (hb.mono B.size); clear hb
    obtain ⟨g0, g1, g2, g3, g4, g5, g6, g7, f1, f2, f3, f4, f5, f6, f7⟩ := id G
    obtain ⟨p0, p1, p2, p3, p4⟩ := id P
    go_wp2_with fail
    refine (CL _ (E.below B) (HS.out.below B)).mono ?_
    rintro e v2 ⟨⟨u, rfl, a1, rfl⟩, hb⟩
    clear g0 g1 g2 g3 g4 g5 g6 g7 f1 f2 f3 f4 f5 f6 f7
    clear p0 p1 p2 p3 p4
    replace G := G.below hb; replace P := P.below hb; replace B := B.trans (hb.mono B.size); clear hb
    go_wp2_with fail
    exact bodyPost_ret (v := (.tuple #[.int .i64 0, .int .i64 0, (.iface 76 (.agg #[.int .i64 2, .iface 146 (.pointer (some a1))]))])) (by simp (maxDischargeDepth := 6) [results, Tryz.results35, go_sem, *]) rfl ⟨⟨_, rfl, by rw [HR.out.1]; exact .inr ⟨by decide, a1, rfl⟩⟩, B⟩
  have HR : Hid (gaC kn lo hi n d x s g M m o = 0 ∧ gaI kn lo hi n d x s g M m o = plI kn lo hi n d x s g M m o ∧ gaK kn lo hi n d x s g M m o = plK kn lo hi n d x s g M m o) := by
    obtain ⟨e1, e2, e3⟩ := ga_go (hG.trans h2)
    exact ⟨e1, e2.trans (pl_yes h2).1.symm, e3.trans (pl_yes h2).2.symm⟩
  rw [HR.out.2.1, HR.out.2.2]
  rw [h2] at CL
  clear h1 h2 hG
  generalize plI kn lo hi n d x s g M m o = QI at *
  generalize plK kn lo hi n d x s g M m o = QK at *
  go_enter Tryz.func35, Tryz.ntmps35; go_upto_region 1 with fail; generalize (w.alloc (.cells #[.int .i64 n, .int .i64 d, .int .i64 x, .int .i64 s, .int .i64 g, .slice a m c, .int .i64 o] 59)).alloc (.cells #[.int .i64 lo, .int .i64 hi] 25) = v at *; generalize w.heap.size + 1 = jp at *
  obtain ⟨g0, g1, g2, g3, g4, g5, g6, g7, f1, f2, f3, f4, f5, f6, f7⟩ := id G
  obtain ⟨p0, p1, p2, p3, p4⟩ := id P
  go_wp2_with fail
  refine (CF _ (E.below B) (HS.out.below B)).mono ?_
  rintro e v1 ⟨⟨u, rfl, rfl⟩, hb⟩
  clear g0 g1 g2 g3 g4 g5 g6 g7 f1 f2 f3 f4 f5 f6 f7
  clear p0 p1 p2 p3 p4
  replace G := G.below hb; replace P := P.below hb; replace B := B.trans (hb.mono B.size); clear hb
  obtain ⟨g0, g1, g2, g3, g4, g5, g6, g7, f1, f2, f3, f4, f5, f6, f7⟩ := id G
  obtain ⟨p0, p1, p2, p3, p4⟩ := id P
  go_wp2_with fail
  refine (CL _ (E.below B) (HS.out.below B)).mono ?_
  rintro e v2 ⟨⟨u, rfl, rfl⟩, hb⟩
  clear g0 g1 g2 g3 g4 g5 g6 g7 f1 f2 f3 f4 f5 f6 f7
  clear p0 p1 p2 p3 p4
  replace G := G.below hb; replace P := P.below hb; replace B := B.trans (hb.mono B.size); clear hb
  go_wp2_with fail
  exact bodyPost_ret (v := (.tuple #[.int .i64 QI, .int .i64 QK, .nilIface])) (by simp (maxDischargeDepth := 6) [results, Tryz.results35, go_sem, *]) rfl ⟨⟨_, rfl, by rw [HR.out.1]; exact .inl ⟨rfl, rfl⟩⟩, B⟩
theorem eqRf (v : Value) (w : World) : (binOp .eql 64 (.iface 76 v) .nilIface).run Tryz.prog w = .ok (.bool false) w := run_eql_iface_nil w 64 (by kernel_rfl) _ _
set_option maxRecDepth 100000 in
set_option maxHeartbeats 16000000 in
theorem goesAt_any (kn : Bool) (lo hi h n d x s g : Int) (a : Option Addr) (m c : Nat) (M : Nat → SlT) (o t : Int) (w : World) (E : EW w) (hm : m ≤ maxLen) (hs : SrcC w a (m * 2) (MFSlot M)) :
    Calls Tryz.prog 25 #[.agg #[.int .i64 n, .int .i64 d, .int .i64 x, .int .i64 s, .int .i64 g, .slice a m c, .int .i64 o], .agg #[.bool kn, .int .i64 lo, .int .i64 hi, .int .i64 h], .int .i64 t] w fun e w' => e = .returned (.bool ((crC kn lo hi h n d t == 0) && (gaC true (crL kn lo hi h n d t) (crH kn lo hi h n d t) n d x s g M m o == 0))) ∧ Below w.heap.size w w' := by
  have A0 := Below.nw w (.cells #[.int .i64 n, .int .i64 d, .int .i64 x, .int .i64 s, .int .i64 g, .slice a m c, .int .i64 o] 59)
  have A1 := Below.nw (w.alloc (.cells #[.int .i64 n, .int .i64 d, .int .i64 x, .int .i64 s, .int .i64 g, .slice a m c, .int .i64 o] 59)) (.cells #[.bool kn, .int .i64 lo, .int .i64 hi, .int .i64 h] 27)
  have G := (Tx7.new w (.int .i64 n) (.int .i64 d) (.int .i64 x) (.int .i64 s) (.int .i64 g) (.slice a m c) (.int .i64 o) 59).below A1
  have L := BoxL.new (w.alloc (.cells #[.int .i64 n, .int .i64 d, .int .i64 x, .int .i64 s, .int .i64 g, .slice a m c, .int .i64 o] 59)) kn lo hi h 27
  have B := A0.trans (A1.mono A0.size)
  simp only [World.size_alloc] at L
  clear A0 A1
  have HS : Hid (SrcC w a (m * 2) (MFSlot M)) := hs
  clear hs
  have CR := fun w' => implCarryOn_any kn lo hi h n d t w'
  have CK := fun w' E hh => gateAsk_any true (crL kn lo hi h n d t) (crH kn lo hi h n d t) n d x s g a m c M o w' E hm hh
  have eN := eqRf
  have eY := eqYes
  generalize gaI true (crL kn lo hi h n d t) (crH kn lo hi h n d t) n d x s g M m o = GI at *
  generalize gaK true (crL kn lo hi h n d t) (crH kn lo hi h n d t) n d x s g M m o = GK at *
  generalize gaC true (crL kn lo hi h n d t) (crH kn lo hi h n d t) n d x s g M m o = GC at *
  generalize crL kn lo hi h n d t = X at *
  generalize crH kn lo hi h n d t = Y at *
  generalize crC kn lo hi h n d t = Q at *
  go_enter Tryz.func25, Tryz.ntmps25
  go_upto_region 1 with fail
  generalize (w.alloc (.cells #[.int .i64 n, .int .i64 d, .int .i64 x, .int .i64 s, .int .i64 g, .slice a m c, .int .i64 o] 59)).alloc (.cells #[.bool kn, .int .i64 lo, .int .i64 hi, .int .i64 h] 27) = v at *
  generalize w.heap.size + 1 = jl at *
  obtain ⟨g0, g1, g2, g3, g4, g5, g6, g7, f1, f2, f3, f4, f5, f6, f7⟩ := id G
  obtain ⟨l0, l1, l2, l3, l4, l5, l6, l7, l8⟩ := id L
  go_wp2_with fail
  refine (CR _).mono ?_
  rintro e v1 ⟨rfl, hb⟩
  clear g0 g1 g2 g3 g4 g5 g6 g7 f1 f2 f3 f4 f5 f6 f7
  clear l0 l1 l2 l3 l4 l5 l6 l7 l8
  replace G := G.below hb
  replace B := B.trans (hb.mono B.size)
  clear hb CR L
  have NL := Below.nw v1 (.cells #[.int .i64 X, .int .i64 Y] 25)
  have Z := Bx2.new v1 (.int .i64 X) (.int .i64 Y) 25
  go_upto_region 2 with fail
  replace G := G.below NL
  replace B := B.trans (NL.mono B.size)
  clear NL
  generalize v1.alloc (.cells #[.int .i64 X, .int .i64 Y] 25) = v2 at *
  generalize v1.heap.size = jz at *
  by_cases q1 : Q = 0
  · subst q1
    obtain ⟨g0, g1, g2, g3, g4, g5, g6, g7, f1, f2, f3, f4, f5, f6, f7⟩ := id G
    obtain ⟨z0, z1, z2, z3, z4⟩ := id Z
    go_wp2_with fail
    refine (CK _ (E.below B) (HS.out.below B)).mono ?_
    rintro e v3 ⟨⟨u, rfl, hv⟩, hb⟩
    clear g0 g1 g2 g3 g4 g5 g6 g7 f1 f2 f3 f4 f5 f6 f7
    clear z0 z1 z2 z3 z4
    replace B := B.trans (hb.mono B.size)
    clear hb CK
    rcases hv with ⟨rfl, rfl⟩ | ⟨q2, a1, rfl⟩
    · go_wp2_with fail
      go_ret
      exact ⟨rfl, B⟩
    · have HZ : Hid ((GC == 0) = false) := beq_eq_false_iff_ne.2 q2
      go_wp2_with fail
      go_ret
      exact ⟨by rw [HZ.out]; rfl, B⟩
  · have HZ : Hid ((Q == 0) = false) := beq_eq_false_iff_ne.2 q1
    clear CK
    go_wp2_with fail
    go_ret
    exact ⟨by rw [HZ.out]; rfl, B⟩
set_option maxRecDepth 100000 in
set_option maxHeartbeats 16000000 in
theorem implGateWait_any (kn : Bool) (lo hi h n d x s g : Int) (a : Option Addr) (m c : Nat) (M : Nat → SlT) (o t y : Int) (w : World) (E : EW w) (hm : m ≤ maxLen) (hs : SrcC w a (m * 2) (MFSlot M)) :
    Calls Tryz.prog 6 #[.agg #[.bool kn, .int .i64 lo, .int .i64 hi, .int .i64 h], .agg #[.int .i64 n, .int .i64 d], .int .i64 x, .agg #[.int .i64 s, .int .i64 g, .slice a m c], .int .i64 o, .int .i64 t, .int .i64 y] w fun e w' => e = .returned (.tuple #[.int .i64 (gwI kn lo hi h n d x s g M m o t y), .bool (gwB kn lo hi h n d x s g M m o t y)]) ∧ Below w.heap.size w w' := by
  have A0 := Below.nw w (.cells #[.bool kn, .int .i64 lo, .int .i64 hi, .int .i64 h] 27)
  have A1 := Below.nw (w.alloc (.cells #[.bool kn, .int .i64 lo, .int .i64 hi, .int .i64 h] 27)) (.cells #[.int .i64 n, .int .i64 d] 29)
  have A2 := Below.nw ((w.alloc (.cells #[.bool kn, .int .i64 lo, .int .i64 hi, .int .i64 h] 27)).alloc (.cells #[.int .i64 n, .int .i64 d] 29)) (.cells #[.int .i64 s, .int .i64 g, .slice a m c] 32)
  have L := ((BoxL.new w kn lo hi h 27).below A1).below A2
  have D := (Bx2.new (w.alloc (.cells #[.bool kn, .int .i64 lo, .int .i64 hi, .int .i64 h] 27)) (.int .i64 n) (.int .i64 d) 29).below A2
  have N := Tx3.new ((w.alloc (.cells #[.bool kn, .int .i64 lo, .int .i64 hi, .int .i64 h] 27)).alloc (.cells #[.int .i64 n, .int .i64 d] 29)) (.int .i64 s) (.int .i64 g) (.slice a m c) 32
  have B := (A0.trans (A1.mono A0.size)).trans (A2.mono (A0.trans (A1.mono A0.size)).size)
  simp only [World.size_alloc] at D N
  clear A0 A1 A2
  have HS : Hid (SrcC w a (m * 2) (MFSlot M)) := hs
  clear hs
  have C2 := fun w' => isTime_any t w'
  have CF := fun w' => gateFor_any n d x s g a m c o w'
  cases h2 : okT t
  · have e1 : gwB kn lo hi h n d x s g M m o t y = false := by unfold gwB gwG; rw [h2]; simp
    have HR : Hid (gwB kn lo hi h n d x s g M m o t y = false ∧ gwI kn lo hi h n d x s g M m o t y = 0) := ⟨e1, gw_no e1⟩
    rw [h2] at C2
    clear e1 h2
    clear L D N HS CF; go_enter Tryz.func6, Tryz.ntmps6; go_upto_region 1 with fail; generalize ((w.alloc (.cells #[.bool kn, .int .i64 lo, .int .i64 hi, .int .i64 h] 27)).alloc (.cells #[.int .i64 n, .int .i64 d] 29)).alloc (.cells #[.int .i64 s, .int .i64 g, .slice a m c] 32) = v at *; generalize w.heap.size + 1 + 1 = jn at *; generalize w.heap.size + 1 = jd at *; go_wp2_with fail; refine (C2 _).mono ?_; rintro e w' ⟨rfl, rfl⟩; go_wp2_with fail; go_ret2; exact ⟨by rw [HR.out.1, HR.out.2]; rfl, B⟩
  by_cases h3 : y < 0
  · have e1 : gwB kn lo hi h n d x s g M m o t y = false := by unfold gwB gwG; rw [decide_eq_false (by omega)]; rfl
    have HR : Hid (gwB kn lo hi h n d x s g M m o t y = false ∧ gwI kn lo hi h n d x s g M m o t y = 0) := ⟨e1, gw_no e1⟩
    rw [h2] at C2
    clear e1 h2
    clear L D N HS CF; go_enter Tryz.func6, Tryz.ntmps6; go_upto_region 1 with fail; generalize ((w.alloc (.cells #[.bool kn, .int .i64 lo, .int .i64 hi, .int .i64 h] 27)).alloc (.cells #[.int .i64 n, .int .i64 d] 29)).alloc (.cells #[.int .i64 s, .int .i64 g, .slice a m c] 32) = v at *; generalize w.heap.size + 1 + 1 = jn at *; generalize w.heap.size + 1 = jd at *; go_wp2_with fail; refine (C2 _).mono ?_; rintro e w' ⟨rfl, rfl⟩; go_wp2_with fail; go_ret2; exact ⟨by rw [HR.out.1, HR.out.2]; rfl, B⟩
  by_cases h4 : 400 < y
  · have e1 : gwB kn lo hi h n d x s g M m o t y = false := by unfold gwB gwG; rw [decide_eq_false (by omega)]; rfl
    have HR : Hid (gwB kn lo hi h n d x s g M m o t y = false ∧ gwI kn lo hi h n d x s g M m o t y = 0) := ⟨e1, gw_no e1⟩
    rw [h2] at C2
    clear e1 h2
    clear L D N HS CF; go_enter Tryz.func6, Tryz.ntmps6; go_upto_region 1 with fail; generalize ((w.alloc (.cells #[.bool kn, .int .i64 lo, .int .i64 hi, .int .i64 h] 27)).alloc (.cells #[.int .i64 n, .int .i64 d] 29)).alloc (.cells #[.int .i64 s, .int .i64 g, .slice a m c] 32) = v at *; generalize w.heap.size + 1 + 1 = jn at *; generalize w.heap.size + 1 = jd at *; go_wp2_with fail; refine (C2 _).mono ?_; rintro e w' ⟨rfl, rfl⟩; go_wp2_with fail; go_ret2; exact ⟨by rw [HR.out.1, HR.out.2]; rfl, B⟩
  have HG : Hid (gwG t y = true) := by unfold Hid gwG; rw [h2, decide_eq_true (by omega)]; rfl
  have ht := okT_t h2
  rw [h2] at C2
  clear h2
  have hy : 0 ≤ y ∧ y ≤ 400 := by omega
  have hwy : IntKind.i64.wrap (y + 1) = y + 1 := Go.IntWalk.i64_in _ ⟨by omega, by omega⟩
  go_enter Tryz.func6, Tryz.ntmps6; go_upto_region 1 with fail; generalize ((w.alloc (.cells #[.bool kn, .int .i64 lo, .int .i64 hi, .int .i64 h] 27)).alloc (.cells #[.int .i64 n, .int .i64 d] 29)).alloc (.cells #[.int .i64 s, .int .i64 g, .slice a m c] 32) = v at *; generalize w.heap.size + 1 + 1 = jn at *; generalize w.heap.size + 1 = jd at *; go_wp2_with fail; refine (C2 _).mono ?_; rintro e w' ⟨rfl, rfl⟩
  clear C2
  obtain ⟨d0, d1, d2, d3, d4⟩ := id D
  obtain ⟨n0, n1, n2, n3, n4, n5, n6⟩ := id N
  go_wp2_with fail
  refine (CF _).mono ?_
  rintro e v1 ⟨rfl, hb⟩
  clear d0 d1 d2 d3 d4
  clear n0 n1 n2 n3 n4 n5 n6
  replace L := L.below hb
  replace B := B.trans (hb.mono B.size)
  clear hb CF D N h3 h4
  have NL := Below.nw v1 (.cells #[.int .i64 n, .int .i64 d, .int .i64 x, .int .i64 s, .int .i64 g, .slice a m c, .int .i64 o] 59)
  have G := Tx7.new v1 (.int .i64 n) (.int .i64 d) (.int .i64 x) (.int .i64 s) (.int .i64 g) (.slice a m c) (.int .i64 o) 59
  go_upto_region 4 with fail
  replace L := L.below NL
  replace B := B.trans (NL.mono B.size)
  clear NL
  generalize v1.alloc (.cells #[.int .i64 n, .int .i64 d, .int .i64 x, .int .i64 s, .int .i64 g, .slice a m c, .int .i64 o] 59) = v2 at *
  generalize v1.heap.size = jg at *
  go_wp2_with fail
  go_loopw [36] (fun i wr => ∃ (j : Nat), j ≤ y.toNat + 1 ∧ i = .int .i64 (j : Int) ∧ fnd (gwP kn lo hi h n d x s g M m o t) j = j ∧ BoxL wr w.heap.size kn lo hi h ∧ Tx7 wr jg (.int .i64 n) (.int .i64 d) (.int .i64 x) (.int .i64 s) (.int .i64 g) (.slice a m c) (.int .i64 o) ∧ Below w.heap.size w wr) (fun i _ => y.toNat + 1 - (intOf i).toNat)
  case atStart => exact ⟨0, Nat.zero_le _, rfl, rfl, L, G, B⟩
  case round =>
    clear L G B
    obtain ⟨j, hj2, rfl, hf, L, G, B⟩ := hrel
    by_cases hlt : (j : Int) < y + 1
    · have HLT : Hid (j + 1 ≤ y.toNat + 1) := by unfold Hid; omega
      have hw : IntKind.i64.wrap (t + (j : Int)) = t + (j : Int) := Go.IntWalk.i64_in _ ⟨by omega, by omega⟩
      have CK := fun w' E hh => goesAt_any kn lo hi h n d x s g a m c M o (t + (j : Int)) w' E hm hh
      have HP : Hid ((gwP kn lo hi h n d x s g M m o t) j = ((crC kn lo hi h n d (t + (j : Int)) == 0) && (gaC true (crL kn lo hi h n d (t + (j : Int))) (crH kn lo hi h n d (t + (j : Int))) n d x s g M m o == 0))) := rfl
      have HY : Hid ((gwP kn lo hi h n d x s g M m o t) j = true → gwB kn lo hi h n d x s g M m o t y = true ∧ gwI kn lo hi h n d x s g M m o t y = (j : Int)) := fun hp => gw_at HG.out hf hp (by omega)
      have HN : Hid ((gwP kn lo hi h n d x s g M m o t) j = false → fnd (gwP kn lo hi h n d x s g M m o t) (j + 1) = j + 1) := fun hp => fnd_miss hf hp
      clear hj2 hf HG
      generalize ((crC kn lo hi h n d (t + (j : Int)) == 0) && (gaC true (crL kn lo hi h n d (t + (j : Int))) (crH kn lo hi h n d (t + (j : Int))) n d x s g M m o == 0)) = Q at *
      obtain ⟨l0, l1, l2, l3, l4, l5, l6, l7, l8⟩ := id L
      obtain ⟨g0, g1, g2, g3, g4, g5, g6, g7, f1, f2, f3, f4, f5, f6, f7⟩ := id G
      go_wp2_with fail
      refine (CK _ (E.below B) (HS.out.below B)).mono ?_
      rintro e v4 ⟨rfl, hb⟩
      clear l0 l1 l2 l3 l4 l5 l6 l7 l8
      clear g0 g1 g2 g3 g4 g5 g6 g7 f1 f2 f3 f4 f5 f6 f7
      replace L := L.below hb
      replace G := G.below hb
      replace B := B.trans (hb.mono B.size)
      clear hb CK
      cases Q
      · have HR : Hid (fnd (gwP kn lo hi h n d x s g M m o t) (j + 1) = j + 1) := HN.out HP.out
        clear HY HN HP
        go_wp2_with fail
        go_roundw
        case rel => exact ⟨j + 1, HLT.out, by go_num, HR.out, L, G, B⟩
        case measure => have hlt' := HLT.out; simp [intOf]; omega
      · have HR : Hid (gwB kn lo hi h n d x s g M m o t y = true ∧ gwI kn lo hi h n d x s g M m o t y = (j : Int)) := HY.out HP.out
        clear HY HN HP
        go_wp2_with fail
        go_ret2
        exact ⟨by rw [HR.out.1, HR.out.2]; rfl, B⟩
    · have e1 := gw_end hf hy.1 hj2 (by omega)
      have HR : Hid (gwB kn lo hi h n d x s g M m o t y = false ∧ gwI kn lo hi h n d x s g M m o t y = 0) := ⟨e1, gw_no e1⟩
      clear e1 hf hj2
      go_wp2_with fail
      go_ret2
      exact ⟨by rw [HR.out.1, HR.out.2]; rfl, B⟩
end Go.Proofs.YtcakhfobkbgfoaaGreatDoor
