/- One round and two in the program; the round of a time. -/
import Derived.Test.YtcakhfobkbgfoaaDoorB143
import Derived.WalkKit
import Derived.WalkSpells
import Derived.WalkLawsBesides
import Derived.Deep.RegionHeld
namespace Go.Proofs.YtcakhfobkbgfoaaDoor
open Go.RowKit
set_option linter.unusedVariables false
/- One round, and two: where the occurrences of their slots stand. -/
def OcRow (w : World) (b off : Nat) (s g : Int) (M : Nat → SlT) (n : Nat) (k : Int) : Prop := b < w.heap.size ∧ ∀ i, i < n → w.cell? ⟨b, off + i * 2, none⟩ = some (.int .i64 (ocF s g M n i k)) ∧ w.cell? ⟨b, off + i * 2 + 1, none⟩ = some (.int .i64 (ocF s g M n i k + (M i).2))
theorem OcRow.below {w w' : World} {B b off : Nat} {s g : Int} {M : Nat → SlT} {n : Nat} {k : Int} (h : OcRow w b off s g M n k) (hb : Below B w w') (hB : b < B) : OcRow w' b off s g M n k :=
  ⟨Nat.lt_of_lt_of_le h.1 hb.size, fun i hi => ⟨by rw [hb.cell (p := ⟨b, off + i * 2, none⟩) hB]; exact (h.2 i hi).1, by rw [hb.cell (p := ⟨b, off + i * 2 + 1, none⟩) hB]; exact (h.2 i hi).2⟩⟩
theorem OcRow.below' {w w' : World} {b off : Nat} {s g : Int} {M : Nat → SlT} {n : Nat} {k : Int} (h : OcRow w b off s g M n k) (hb : Below w.heap.size w w') : OcRow w' b off s g M n k := h.below hb h.1
theorem Rd.row {w : World} {b1 b2 m n : Nat} {s g : Int} {M : Nat → SlT} {k : Int} (h : Rd w b1 b2 m n (RF s g M n k)) {j : Nat} (hj : j < m) : OcRow w b1 (j * n * 2) s g M n (k + (j : Int)) := by
  refine ⟨h.2.1, fun i hi => ?_⟩
  obtain ⟨e1, e2⟩ := RF_at s g M n k (j := j) hi
  have hlt : j * n + i < m * n := by
    have h1 : (j + 1) * n ≤ m * n := Nat.mul_le_mul_right n hj
    rw [Nat.succ_mul] at h1
    omega
  have a1 := h.2.2 ((j * n + i) * 2) (by omega)
  have a2 := h.2.2 ((j * n + i) * 2 + 1) (by omega)
  have eF : ocF s g M n (i : Int) (k + (j : Int)) = rAt s g M n k j + upS g M i := by unfold ocF rAt; simp
  rw [e1, Nat.zero_add, Nat.add_mul] at a1
  rw [e2, Nat.zero_add, Nat.add_mul] at a2
  rw [eF]
  exact ⟨a1, a2⟩
theorem Rd.at {w : World} {b1 b2 m n : Nat} {F : Nat → Value} (h : Rd w b1 b2 m n F) {j : Nat} (hj : j < m) : w.cell? ⟨b2, j, none⟩ = some (.slice (some ⟨b1, j * n * 2, none⟩) n n) := by
  have a1 := h.1.2 j hj
  rw [Nat.zero_add] at a1
  exact a1
theorem rounds1_any (s g : Int) (a : Option Addr) (n c : Nat) (M : Nat → SlT) (k : Int) (w : World) (hp : plB s g M n = true) (hk : kOk s g M n k) (hs : SrcC w a (n * 2) (MFSlot M)) :
    Calls Tryd.prog 57 #[.agg #[.int .i64 s, .int .i64 g, .slice a n c], .int .i64 k, .int .i64 1] w fun e w' => ∃ b1 b2, e = .returned (.slice (some ⟨b2, 0, none⟩) 1 1) ∧ w'.cell? ⟨b2, 0, none⟩ = some (.slice (some ⟨b1, 0, none⟩) n n) ∧ OcRow w' b1 0 s g M n k ∧ Below w.heap.size w w' := by
  refine (rounds_any s g a n c M k 1 w hp hk (by decide) (by decide) hs).mono ?_
  rintro e w' ⟨b1, b2, -, -, rfl, hD, hB⟩
  have h1 := hD.row (j := 0) (by decide)
  have h2 := hD.at (j := 0) (by decide)
  rw [Nat.zero_mul, Nat.zero_mul] at h1 h2
  rw [show k + ((0 : Nat) : Int) = k by omega] at h1
  exact ⟨b1, b2, rfl, h2, h1, hB⟩
theorem rounds2_any (s g : Int) (a : Option Addr) (n c : Nat) (M : Nat → SlT) (k : Int) (w : World) (hp : plB s g M n = true) (hk : kOk s g M n k) (hs : SrcC w a (n * 2) (MFSlot M)) :
    Calls Tryd.prog 57 #[.agg #[.int .i64 s, .int .i64 g, .slice a n c], .int .i64 k, .int .i64 2] w fun e w' => ∃ b1 b2, e = .returned (.slice (some ⟨b2, 0, none⟩) 2 2) ∧ (∀ j, j < 2 → b2 < w'.heap.size ∧ w'.cell? ⟨b2, j, none⟩ = some (.slice (some ⟨b1, j * n * 2, none⟩) n n) ∧ OcRow w' b1 (j * n * 2) s g M n (k + (j : Int))) ∧ Below w.heap.size w w' := by
  refine (rounds_any s g a n c M k 2 w hp hk (by decide) (by decide) hs).mono ?_
  rintro e w' ⟨b1, b2, -, -, rfl, hD, hB⟩
  exact ⟨b1, b2, rfl, fun j hj => ⟨hD.1.1, hD.at hj, hD.row hj⟩, hB⟩
theorem kOk_zero {s g : Int} {M : Nat → SlT} {n : Nat} : kOk s g M n 0 := ⟨by decide, by decide, by rw [Int.zero_mul]; decide, by rw [Int.zero_mul]; decide⟩
/- The round of a time: bounds, and what the specification's are of it. -/
theorem ra_pos {s g : Int} {M : Nat → SlT} {n : Nat} {t : Int} (hp : plB s g M n = true) : raI s g M n t = imx 0 (t - s) / upS g M n := by
  unfold raI
  rw [Int.tdiv_eq_ediv_of_nonneg (by unfold imx; split <;> omega)]
theorem ra_kOk {s g : Int} {M : Nat → SlT} {n : Nat} {t k : Int} (hp : plB s g M n = true) (ht : 0 ≤ t ∧ t ≤ 1000000000000) (h0 : 0 ≤ k) (hk : k ≤ raI s g M n t) : kOk s g M n k := by
  have hr := rn_bd hp
  obtain ⟨p1, p2, p3, p4⟩ := plB_t hp
  rw [ra_pos hp] at hk
  have hx : 0 ≤ imx 0 (t - s) ∧ imx 0 (t - s) ≤ 1000000000000 := by unfold imx; split <;> omega
  have h1 : imx 0 (t - s) / upS g M n * upS g M n ≤ imx 0 (t - s) := Int.ediv_mul_le _ (by omega)
  have h2 : imx 0 (t - s) / upS g M n ≤ imx 0 (t - s) := Int.ediv_le_self _ hx.1
  have h3 : k * upS g M n ≤ imx 0 (t - s) / upS g M n * upS g M n := Int.mul_le_mul_of_nonneg_right hk (by omega)
  exact ⟨h0, by omega, Int.mul_nonneg h0 (by omega), by omega⟩
theorem ra_zero {s g : Int} {M : Nat → SlT} {n : Nat} {t : Int} (hp : plB s g M n = true) : 0 ≤ raI s g M n t := by
  have hr := rn_bd hp
  rw [ra_pos hp]
  exact Int.ediv_nonneg (by unfold imx; split <;> omega) (by omega)
theorem ra_no {s g : Int} {M : Nat → SlT} {n : Nat} {t : Int} (hp : plB s g M n = true) : noR s g M n t = raI s g M n t := by
  have hr := rn_bd hp
  unfold noR raI
  by_cases h : 0 ≤ t - s
  · have e : imx 0 (t - s) = t - s := by unfold imx; split <;> omega
    have h1 : 0 ≤ (t - s).tdiv (upS g M n) := by rw [Int.tdiv_eq_ediv_of_nonneg h]; exact Int.ediv_nonneg h (by omega)
    rw [e]
    unfold imx
    split <;> omega
  · have e : imx 0 (t - s) = 0 := by unfold imx; split <;> omega
    have h1 : (t - s).tdiv (upS g M n) ≤ 0 := by
      have e2 : t - s = -(s - t) := by omega
      rw [e2, Int.neg_tdiv, Int.tdiv_eq_ediv_of_nonneg (by omega)]
      have := Int.ediv_nonneg (show 0 ≤ s - t by omega) (show 0 ≤ upS g M n by omega)
      omega
    rw [e, Int.zero_tdiv]
    unfold imx
    split <;> omega
theorem ra_sa {s g : Int} {M : Nat → SlT} {n : Nat} {t : Int} (h : s ≤ t) : saR s g M n t = raI s g M n t := by
  unfold saR raI
  have e : imx 0 (t - s) = t - s := by unfold imx; split <;> omega
  rw [e, Int.tdiv_eq_ediv_of_nonneg (by omega)]
/- An occurrence behind the round of the last time is none. -/
theorem oc_late {s g : Int} {M : Nat → SlT} {n : Nat} {i k : Int} (hp : plB s g M n = true) (hk : raI s g M n 1000000000000 < k) : ocB s g M n i k = false := by
  cases h : ocB s g M n i k
  · rfl
  · have hG : ocG s g M n i k = true := by
      unfold ocB at h
      simp only [Bool.and_eq_true] at h
      exact h.1
    obtain ⟨o1, o2, o3, o4, o5, o6, o7⟩ := ocG_bd hG
    have e := (oc_sel hG).1
    rw [h] at e
    have hI : okI (ocF s g M n i k) (ocF s g M n i k + (M i.toNat).2) = true := e.symm
    unfold okI at hI
    simp at hI
    obtain ⟨p1, p2, p3, p4⟩ := plB_t hp
    have hr := rn_bd hp
    have hu := upS_bd p2 p4 i.toNat (by omega)
    have hle : k * upS g M n ≤ 1000000000000 - s := by
      unfold ocF at hI
      omega
    have hle2 : k ≤ (1000000000000 - s) / upS g M n := (Int.le_ediv_iff_mul_le (by omega)).2 hle
    rw [ra_pos hp, show imx 0 (1000000000000 - s) = 1000000000000 - s by unfold imx; split <;> omega] at hk
    omega
/- In a round that may be asked for, an occurrence is one just if it is an interval. -/
theorem oc_ok {s g : Int} {M : Nat → SlT} {n : Nat} {i : Nat} {k : Int} (hp : plB s g M n = true) (hi : i < n) (h0 : 0 ≤ k) : ocB s g M n i k = okI (ocF s g M n i k) (ocF s g M n i k + (M i).2) := by
  have hr := rn_bd hp
  obtain ⟨p1, p2, p3, p4⟩ := plB_t hp
  have hsf : sfB s g M n i = true := by
    unfold sfB ixB
    rw [hp]
    simp
    omega
  cases h : okK (upS g M n) k
  · have hG : ocG s g M n i k = false := by unfold ocG; rw [h]; simp
    have e : ocB s g M n i k = false := by unfold ocB; rw [hG]; rfl
    rw [e]
    cases hI : okI (ocF s g M n i k) (ocF s g M n i k + (M i).2)
    · rfl
    · exfalso
      unfold okI at hI
      simp at hI
      have hu := upS_bd p2 p4 i (by omega)
      have hl := (slB_t (slA_at p4 hi)).2
      have hle : k * upS g M n ≤ 1000000000000 := by
        unfold ocF at hI
        rw [Int.toNat_natCast] at hI
        omega
      have hle2 : k ≤ 1000000000000 / upS g M n := (Int.le_ediv_iff_mul_le (by omega)).2 hle
      have hle3 : 1000000000000 / upS g M n ≤ 1000000000000 := Int.ediv_le_self _ (by decide)
      unfold okK at h
      simp at h
      omega
  · have hG : ocG s g M n i k = true := by unfold ocG; rw [h, hsf]; rfl
    have := (oc_sel hG).1
    rw [Int.toNat_natCast] at this
    exact this
end Go.Proofs.YtcakhfobkbgfoaaDoor
