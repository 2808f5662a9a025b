/- BusLoad in the specification. -/
import Derived.Test.YtnjoldjefknpbaaQ158
import Derived.Deep.RegionHeld3
import Derived.Deep.DeepCutAuto
import Derived.WalkKit
import Derived.WalkSpells
import Derived.WalkLawsBesides
import Derived.Deep.RegionHeld
namespace Go.Proofs.Ytnjoldjefknpbaa
open Go.RowKit
set_option linter.unusedVariables false
/- What is left of d when the first k intervals are taken off. -/
def ldI (L : List VT) (d : Int) : Nat → Int
  | 0 => d
  | k + 1 => ldI L d k - ((gV L k).2 - (gV L k).1)
def ldB (M : Nat → FrT) (n : Nat) (f t : Int) : Int := match tmB M n f t with | true => ldI (quL M n f t) (t - f) (quL M n f t).length | false => -1
theorem imx_ge (x y : Int) : x ≤ imx x y ∧ y ≤ imx x y := by unfold imx; split <;> omega
theorem imn_le (x y : Int) : imn x y ≤ x ∧ imn x y ≤ y := by unfold imn; split <;> omega
theorem imn_lt {x y z : Int} (h1 : z < x) (h2 : z < y) : z < imn x y := by unfold imn; split <;> omega
theorem quA_ge (M : Nat → FrT) (f : Int) : ∀ k, f ≤ quA M f k
  | 0 => Int.le_refl _
  | k + 1 => Int.le_trans (quA_ge M f k) (imx_ge _ _).1
theorem quR_in (M : Nat → FrT) (f t : Int) : ∀ k, ∀ p ∈ quR M f t k, f ≤ p.1 ∧ p.1 < p.2 ∧ p.2 ≤ t
  | 0, p, h => by simp [quR] at h
  | k + 1, p, h => by
    rw [quR] at h
    split at h
    · rename_i hc
      simp only [Bool.and_eq_true, decide_eq_true_eq] at hc
      rcases List.mem_append.1 h with r | r
      · exact quR_in M f t k p r
      · rw [List.mem_singleton] at r
        subst r
        exact ⟨quA_ge M f k, imn_lt hc.1 hc.2, (imn_le _ _).2⟩
    · exact quR_in M f t k p h
theorem quL_in {M : Nat → FrT} {n : Nat} {f t : Int} (p : VT) (h : p ∈ quL M n f t) : f ≤ p.1 ∧ p.1 < p.2 ∧ p.2 ≤ t := by
  unfold quL at h
  split at h
  · split at h
    · rename_i hc
      rw [decide_eq_true_eq] at hc
      rcases List.mem_append.1 h with r | r
      · exact quR_in M f t n p r
      · rw [List.mem_singleton] at r
        subst r
        exact ⟨quA_ge M f n, hc, Int.le_refl _⟩
    · exact quR_in M f t n p h
  · simp at h
theorem gV_mem {L : List VT} {i : Nat} (h : i < L.length) : gV L i ∈ L := by
  rw [gV, List.getD_eq_getElem?_getD, List.getElem?_eq_getElem h]
  exact List.getElem_mem h
theorem quL_len {M : Nat → FrT} {n : Nat} {f t : Int} : (quL M n f t).length ≤ n + 1 := by
  have h := quR_len M f t n
  unfold quL
  split
  · split
    · rw [List.length_append]; simp; exact h
    · exact Nat.le_succ_of_le h
  · simp
theorem ldI_in {L : List VT} {d : Int} (hd : 0 ≤ d ∧ d ≤ 1000000000000) (hL : ∀ i, i < L.length → 0 ≤ (gV L i).2 - (gV L i).1 ∧ (gV L i).2 - (gV L i).1 ≤ 1000000000000) : ∀ k, k ≤ L.length → -(1000000000000 * (k : Int)) ≤ ldI L d k ∧ ldI L d k ≤ 1000000000000
  | 0, _ => by rw [ldI]; omega
  | k + 1, h => by
    have ih := ldI_in hd hL k (by omega)
    have hk := hL k (by omega)
    rw [ldI]
    omega
set_option maxRecDepth 100000 in
set_option maxHeartbeats 8000000 in
theorem specBusLoad_any (a : Option Addr) (n c : Nat) (M : Nat → FrT) (f t : Int) (w : World) (hm : n ≤ maxLen) (hs : SrcC w a (n * 6) (MFFrame M)) (hz : ∀ i, i < n → (M i).2.2.2.2.2.size ≤ maxLen) :
    Calls Try.prog 19 #[.slice a n c, .int .i64 f, .int .i64 t] w fun e w' => e = .returned (.int .i64 (ldB M n f t)) ∧ Below w.heap.size w w' := by
  have HS : Hid (SrcC w a (n * 6) (MFFrame M)) := hs
  clear hs
  have C1 := fun w' h => l15Times_any a n c M f t w' hm h hz
  have C2 := fun w' h => specBusQuiet_any a n c M f t w' hm h hz
  cases h1 : tmB M n f t
  · have e0 : ldB M n f t = -1 := by unfold ldB; rw [h1]
    rw [e0]
    rw [h1] at C1
    go_enter Try.func19, Try.ntmps19
    go_wp2_with fail
    refine (C1 _ HS.out).mono ?_
    rintro e v1 ⟨rfl, hb⟩
    go_wp2_with fail
    go_ret
    exact ⟨rfl, hb⟩
  rw [h1] at C1
  have hn60 := (buB_t (tmB_t h1).1).1
  obtain ⟨-, hf0, hft, ht1⟩ := tmB_t h1
  have e0 : ldB M n f t = ldI (quL M n f t) (t - f) (quL M n f t).length := by unfold ldB; rw [h1]
  rw [e0]
  have hll := quL_len (M := M) (n := n) (f := f) (t := t)
  have HIN : Hid (∀ i, i < (quL M n f t).length → 0 ≤ (gV (quL M n f t) i).1 ∧ (gV (quL M n f t) i).1 ≤ (gV (quL M n f t) i).2 ∧ (gV (quL M n f t) i).2 ≤ 1000000000000) := fun i hi => by
    have := quL_in _ (gV_mem hi)
    omega
  have HLD : Hid (∀ k, k ≤ (quL M n f t).length → -(1000000000000 * (k : Int)) ≤ ldI (quL M n f t) (t - f) k ∧ ldI (quL M n f t) (t - f) k ≤ 1000000000000) := ldI_in ⟨by omega, by omega⟩ fun i hi => by
    have := quL_in _ (gV_mem hi)
    omega
  have HL1 : Hid (∀ k, ldI (quL M n f t) (t - f) (k + 1) = ldI (quL M n f t) (t - f) k - ((gV (quL M n f t) k).2 - (gV (quL M n f t) k).1)) := fun k => rfl
  have HL0 : Hid (ldI (quL M n f t) (t - f) 0 = t - f) := rfl
  clear e0 h1 hz hm
  generalize ldI (quL M n f t) (t - f) = LD at *
  generalize quL M n f t = Q at *
  go_enter Try.func19, Try.ntmps19
  go_wp2_with fail
  refine (C1 _ HS.out).mono ?_
  rintro e v1 ⟨rfl, B⟩
  go_wp2_with fail
  refine (C2 _ (HS.out.below B)).mono ?_
  rintro e v2 ⟨rv, rfl, OW, hb⟩
  have hl3 : Q.length ≤ 61 := by omega
  obtain ⟨ra, rc, rfl, -, -, SR⟩ := ownF_src (F := MFIval (gV Q)) (s := 2) (n := Q.length) OW
  replace B := B.trans (hb.mono B.size)
  clear hb OW C1 C2 HS
  have HSR : Hid (SrcC v2 ra (Q.length * 2) (MFIval (gV Q))) := SR
  clear SR
  generalize hln : Q.length = ln at *
  go_wp2_with fail
  go_loopw [7, 9] (fun s7 i wr => ∃ (q : Nat), q ≤ ln ∧ i = .int .i64 q ∧ s7 = .int .i64 (LD q) ∧ Below v2.heap.size v2 wr) (fun _ i _ => ln - (intOf i).toNat)
  case atStart => exact ⟨0, Nat.zero_le _, rfl, by rw [HL0.out], Below.refl _ _⟩
  case round =>
    obtain ⟨q, hq, rfl, rfl, BW⟩ := hrel
    by_cases hlt : q < ln
    · have hli : (q : Int) < (ln : Int) := by omega
      have HQ : Hid (q < ln) := hlt
      obtain ⟨y0, y1, hy⟩ := tupIval (gV Q) q
      obtain ⟨b, off, rfl, hf1⟩ : ∃ b off, ra = some ⟨b, off, none⟩ ∧ Cs wr b off (ln * 2) (MFIval (gV Q)) := by
        rcases HSR.out.below BW with r | r
        · exact absurd r (by omega)
        · exact r
      obtain ⟨d0, d1⟩ := hf1.elIval hlt hy
      have HE : Hid (LD (q + 1) = LD q - (y1 - y0)) := by rw [Hid, HL1.out, hy]
      have hi := HIN.out q (by omega)
      rw [hy] at hi
      have hi : 0 ≤ y0 ∧ y0 ≤ y1 ∧ y1 ≤ 1000000000000 := hi
      have hd := HLD.out q (by omega)
      have hw1 : IntKind.i64.wrap (y1 - y0) = y1 - y0 := Go.IntWalk.i64_in _ ⟨by omega, by omega⟩
      have hx1 : wrap64 (y1 - y0) = y1 - y0 := Go.IntWalk.wrap64_in _ ⟨by omega, by omega⟩
      have hw2 : IntKind.i64.wrap (LD q - (y1 - y0)) = LD q - (y1 - y0) := Go.IntWalk.i64_in _ ⟨by omega, by omega⟩
      have hx2 : wrap64 (LD q - (y1 - y0)) = LD q - (y1 - y0) := Go.IntWalk.wrap64_in _ ⟨by omega, by omega⟩
      clear hi hd hf1 hy hq HIN HLD HL1 HL0 HSR
      generalize LD q = lq at *
      go_upto_region 8 with fail
      have B8 : Below v2.heap.size v2 wr.drew := Below.drew BW
      refine wp_region_held_drew (S := (fun w' => w'.cell? ⟨b, off + q * 2, none⟩ = some (.int .i64 y0) ∧ w'.cell? ⟨b, off + q * 2 + 1, none⟩ = some (.int .i64 y1))) (by kernel_rfl) ?_ (fun hHeld => ?_)
      · exact ⟨d0, d1⟩
      refine wpAnyH_take (i := 0) (v := ?_) (by rw [List.getElem?_toArray]; rfl) (by kernel_rfl) (by kernel_rfl) (by kernel_rfl) (by intro _ _ _ h; exact h) (Or.inl ⟨by rfl, ?_⟩) (by assumption) ?_
      rotate_left
      · (intro w hSw; (try dsimp only at hSw); go_simp; all_goals with_reducible rfl)
      (try simp only [Act.put, List.setIfInBounds_toArray, List.set_cons_zero, List.set_cons_succ])
      refine wpAnyH_take (i := 1) (v := ?_) (by rw [List.getElem?_toArray]; rfl) (by kernel_rfl) (by kernel_rfl) (by kernel_rfl) (by intro _ _ _ h; exact h) (Or.inl ⟨by rfl, ?_⟩) (by assumption) ?_
      rotate_left
      · (intro w hSw; (try dsimp only at hSw); go_simp; all_goals with_reducible rfl)
      (try simp only [Act.put, List.setIfInBounds_toArray, List.set_cons_zero, List.set_cons_succ])
      refine wpAnyH_take (i := 2) (v := ?_) (by rw [List.getElem?_toArray]; rfl) (by kernel_rfl) (by kernel_rfl) (by kernel_rfl) (by intro _ _ _ h; exact h) (Or.inl ⟨by rfl, ?_⟩) (by assumption) ?_
      rotate_left
      · (intro w hSw; (try dsimp only at hSw); go_simp; all_goals with_reducible rfl)
      (try simp only [Act.put, List.setIfInBounds_toArray, List.set_cons_zero, List.set_cons_succ])
      refine wpAnyH_take (i := 3) (v := ?_) (by rw [List.getElem?_toArray]; rfl) (by kernel_rfl) (by kernel_rfl) (by kernel_rfl) (by intro _ _ _ h; exact h) (Or.inl ⟨by rfl, ?_⟩) (by assumption) ?_
      rotate_left
      · (intro w hSw; (try dsimp only at hSw); go_simp; all_goals with_reducible rfl)
      (try simp only [Act.put, List.setIfInBounds_toArray, List.set_cons_zero, List.set_cons_succ])
      refine wpAnyH_take (i := 4) (v := ?_) (by rw [List.getElem?_toArray]; rfl) (by kernel_rfl) (by kernel_rfl) (by kernel_rfl) (by intro _ _ _ h; exact h) (Or.inl ⟨by rfl, ?_⟩) (by assumption) ?_
      rotate_left
      · (intro w hSw; (try dsimp only at hSw); go_simp; all_goals with_reducible rfl)
      (try simp only [Act.put, List.setIfInBounds_toArray, List.set_cons_zero, List.set_cons_succ])
      refine wpAnyH_take (i := 5) (v := ?_) (by rw [List.getElem?_toArray]; rfl) (by kernel_rfl) (by kernel_rfl) (by kernel_rfl) (by intro _ _ _ h; exact h) (Or.inl ⟨by rfl, ?_⟩) (by assumption) ?_
      rotate_left
      · (intro w hSw; (try dsimp only at hSw); go_simp; all_goals with_reducible rfl)
      (try simp only [Act.put, List.setIfInBounds_toArray, List.set_cons_zero, List.set_cons_succ])
      refine wpAnyH_take (i := 6) (v := ?_) (by rw [List.getElem?_toArray]; rfl) (by kernel_rfl) (by kernel_rfl) (by kernel_rfl) (by intro _ _ _ h; exact h) (Or.inl ⟨by rfl, ?_⟩) (by assumption) ?_
      rotate_left
      · (intro w hSw; (try dsimp only at hSw); go_simp; all_goals with_reducible rfl)
      (try simp only [Act.put, List.setIfInBounds_toArray, List.set_cons_zero, List.set_cons_succ])
      refine wpAnyH_take (i := 7) (v := ?_) (by rw [List.getElem?_toArray]; rfl) (by kernel_rfl) (by kernel_rfl) (by kernel_rfl) (by intro _ _ _ h; exact h) (Or.inl ⟨by rfl, ?_⟩) (by assumption) ?_
      rotate_left
      · (intro w hSw; (try dsimp only at hSw); go_simp; all_goals with_reducible rfl)
      (try simp only [Act.put, List.setIfInBounds_toArray, List.set_cons_zero, List.set_cons_succ])
      refine wpAnyH_take (i := 8) (v := ?_) (by rw [List.getElem?_toArray]; rfl) (by kernel_rfl) (by kernel_rfl) (by kernel_rfl) (by intro _ _ _ h; exact h) (Or.inl ⟨by rfl, ?_⟩) (by assumption) ?_
      rotate_left
      · (intro w hSw; (try dsimp only at hSw); go_simp; all_goals with_reducible rfl)
      (try simp only [Act.put, List.setIfInBounds_toArray, List.set_cons_zero, List.set_cons_succ])
      refine wpAnyH_take (i := 9) (v := ?_) (by rw [List.getElem?_toArray]; rfl) (by kernel_rfl) (by kernel_rfl) (by kernel_rfl) (by intro _ _ _ h; exact h) (Or.inl ⟨by rfl, ?_⟩) (by assumption) ?_
      rotate_left
      · (intro w hSw; (try dsimp only at hSw); go_simp; all_goals with_reducible rfl)
      (try simp only [Act.put, List.setIfInBounds_toArray, List.set_cons_zero, List.set_cons_succ])
      refine wpAnyH_take (i := 10) (v := ?_) (by rw [List.getElem?_toArray]; rfl) (by kernel_rfl) (by kernel_rfl) (by kernel_rfl) (by intro _ _ _ h; exact h) (Or.inl ⟨by rfl, ?_⟩) (by assumption) ?_
      rotate_left
      · (intro w hSw; (try dsimp only at hSw); go_simp; all_goals with_reducible rfl)
      (try simp only [Act.put, List.setIfInBounds_toArray, List.set_cons_zero, List.set_cons_succ])
      refine wpAnyH_take (i := 11) (v := ?_) (by rw [List.getElem?_toArray]; rfl) (by kernel_rfl) (by kernel_rfl) (by kernel_rfl) (by intro _ _ _ h; exact h) (Or.inl ⟨by rfl, ?_⟩) (by assumption) ?_
      rotate_left
      · (intro w hSw; (try dsimp only at hSw); go_simp; all_goals with_reducible rfl)
      (try simp only [Act.put, List.setIfInBounds_toArray, List.set_cons_zero, List.set_cons_succ])
      (try simp only [hw1, hx1])
      refine wpAnyH_take (i := 12) (v := ?_) (by rw [List.getElem?_toArray]; rfl) (by kernel_rfl) (by kernel_rfl) (by kernel_rfl) (by intro _ _ _ h; exact h) (Or.inl ⟨by rfl, ?_⟩) (by assumption) ?_
      rotate_left
      · (intro w hSw; (try dsimp only at hSw); go_simp; all_goals with_reducible rfl)
      (try simp only [Act.put, List.setIfInBounds_toArray, List.set_cons_zero, List.set_cons_succ])
      (try simp only [hw2, hx2])
      refine wpAnyH_take (i := 13) (v := ?_) (by rw [List.getElem?_toArray]; rfl) (by kernel_rfl) (by kernel_rfl) (by kernel_rfl) (by intro _ _ _ h; exact h) (Or.inl ⟨by rfl, ?_⟩) (by assumption) ?_
      rotate_left
      · (intro w hSw; (try dsimp only at hSw); go_simp; all_goals with_reducible rfl)
      (try simp only [Act.put, List.setIfInBounds_toArray, List.set_cons_zero, List.set_cons_succ])
      refine wpAnyH_done (by kernel_rfl) ?_ _
      go_wp2_with fail
      go_roundw
      case rel => exact ⟨q + 1, HQ.out, by go_num, by rw [HE.out], B8⟩
      case measure => have hlt' := HQ.out; simp [intOf]; omega
    · have hkn : q = ln := by omega
      subst hkn
      have hli : ¬ (q : Int) < (q : Int) := by omega
      go_wp2_with fail
      go_ret
      exact ⟨rfl, B.trans (BW.mono B.size)⟩
end Go.Proofs.Ytnjoldjefknpbaa
