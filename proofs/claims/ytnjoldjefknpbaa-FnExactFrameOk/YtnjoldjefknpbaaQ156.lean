/- BusClashes in the specification. -/
import Derived.Test.YtnjoldjefknpbaaQ153
import Derived.Test.YtnjoldjefknpbaaQ155
import Derived.Deep.RegionHeld3
import Derived.Deep.DeepCutAuto
import Derived.WalkKit
import Derived.WalkSpells
import Derived.WalkLawsBesides
import Derived.Deep.RegionHeld
namespace Go.Proofs.Ytnjoldjefknpbaa
open Go.RowKit
set_option linter.unusedVariables false
/- The clashes of the frame i with those behind it, ahead of the one numbered k. -/
def clR (M : Nat → FrT) (i : Nat) : Nat → List VT
  | 0 => []
  | k + 1 => match (decide (i < k) && clB (M i) (M k)) with | true => clR M i k ++ [((i : Int), (k : Int))] | false => clR M i k
def clA (M : Nat → FrT) (n : Nat) : Nat → List VT
  | 0 => []
  | q + 1 => clA M n q ++ clR M q n
def clL (M : Nat → FrT) (n : Nat) : List VT := match buB M n with | true => clA M n n | false => []
theorem clR_yes {M : Nat → FrT} {i k : Nat} (h : i < k) (hc : clB (M i) (M k) = true) : clR M i (k + 1) = clR M i k ++ [((i : Int), (k : Int))] := by
  rw [clR, decide_eq_true h, hc]; rfl
theorem clR_no {M : Nat → FrT} {i k : Nat} (hc : clB (M i) (M k) = false) : clR M i (k + 1) = clR M i k := by
  rw [clR, hc, Bool.and_false]
theorem clR_none (M : Nat → FrT) (i : Nat) : ∀ k, k ≤ i + 1 → clR M i k = []
  | 0, _ => rfl
  | k + 1, h => by
    rw [clR, decide_eq_false (by omega), Bool.false_and]
    exact clR_none M i k (by omega)
theorem clR_len (M : Nat → FrT) (i : Nat) : ∀ k, (clR M i k).length ≤ k
  | 0 => Nat.le_refl _
  | k + 1 => by
    have ih := clR_len M i k
    rw [clR]
    split
    · rw [List.length_append]; simp; exact ih
    · exact Nat.le_succ_of_le ih
theorem clA_len (M : Nat → FrT) (n : Nat) : ∀ q, (clA M n q).length ≤ q * n
  | 0 => Nat.zero_le _
  | q + 1 => by
    have ih := clA_len M n q
    have h := clR_len M q n
    rw [clA, List.length_append, Nat.add_mul]
    omega
theorem clash_room {M : Nat → FrT} {n q m : Nat} (hn : n ≤ 60) (hq : q < n) (hm : m ≤ n) : (clA M n q ++ clR M q m).length ≤ 4096 := by
  have h1 := clA_len M n q
  have h2 := clR_len M q m
  have h3 : q * n ≤ 60 * 60 := Nat.mul_le_mul (by omega) hn
  rw [List.length_append]
  omega
set_option maxRecDepth 100000 in
set_option maxHeartbeats 8000000 in
theorem specBusClashes_any (a : Option Addr) (n c : Nat) (M : Nat → FrT) (w : World) (hm : n ≤ maxLen) (hs : SrcC w a (n * 6) (MFFrame M)) (hz : ∀ i, i < n → (M i).2.2.2.2.2.size ≤ maxLen) :
    Calls Try.prog 28 #[.slice a n c] w fun e w' => ∃ v, e = .returned v ∧ w'.ownsRow w.heap.size 47 2 v (clL M n).length (vrow (clL M n)) ∧ Below w.heap.size w w' := by
  have B := Below.nw w (.cells #[] 47)
  have OW := made_clash w
  have hjs : w.heap.size ≤ (w.alloc (.cells #[] 47)).heap.size := B.size
  have HS : Hid (SrcC w a (n * 6) (MFFrame M)) := hs
  clear hs
  have C1 := fun w' h => specBusOk_any a n c M w' hm h hz
  have hmm := hm
  unfold maxLen at hmm
  cases h1 : buB M n
  · have e0 : clL M n = [] := by unfold clL; rw [h1]
    rw [e0]
    rw [h1] at C1
    clear e0
    go_enter Try.func28, Try.ntmps28
    go_upto_region 2 with fail
    generalize w.alloc (.cells #[] 47) = v at *
    go_wp2_with fail
    refine (C1 _ (HS.out.below B)).mono ?_
    rintro e v1 ⟨rfl, hb⟩
    replace B := B.trans (hb.mono B.size)
    replace OW := own_belK' OW hb
    clear hb
    go_wp2_with fail
    go_ret
    exact ⟨_, rfl, OW, B⟩
  have e0 : clL M n = clA M n n := by unfold clL; rw [h1]
  rw [e0]
  rw [h1] at C1
  have hn60 := (buB_t h1).1
  have HN60 : Hid (n ≤ 60) := hn60
  clear e0 h1 hz hm
  go_enter Try.func28, Try.ntmps28
  go_upto_region 2 with fail
  generalize w.alloc (.cells #[] 47) = v at *
  go_wp2_with fail
  refine (C1 _ (HS.out.below B)).mono ?_
  rintro e v1 ⟨rfl, hb⟩
  replace B := B.trans (hb.mono B.size)
  replace OW := own_belK' OW hb
  replace hjs := Nat.le_trans hjs hb.size
  clear hb C1
  go_wp2_with fail
  go_loopw [3, 4, 5] (fun s3 i _ wr => ∃ (q : Nat), q ≤ n ∧ i = .int .i64 q ∧ wr.ownsRow w.heap.size 47 2 s3 (clA M n q).length (vrow (clA M n q)) ∧ w.heap.size ≤ wr.heap.size ∧ Below w.heap.size w wr) (fun _ i _ _ => n - (intOf i).toNat)
  case atStart => exact ⟨0, Nat.zero_le _, rfl, OW, hjs, B⟩
  case round =>
    clear OW B hjs
    obtain ⟨q, hq, rfl, OW, hjs, B⟩ := hrel
    by_cases hlt : q < n
    · have hli : (q : Int) < (n : Int) := by omega
      have HQ : Hid (q < n) := hlt
      clear hq
      obtain ⟨x0, x1, x2, x3, x4, x5, hM⟩ := tupFrame M q
      obtain ⟨b, off, rfl, hf0⟩ : ∃ b off, a = some ⟨b, off, none⟩ ∧ Cs w b off (n * 6) (MFFrame M) := by
        rcases HS.out with r | r
        · exact absurd r (by omega)
        · exact r
      have HF0 : Hid (Cs w b off (n * 6) (MFFrame M)) := hf0
      have HCL : Hid (∀ j z0 z1 z2 z3 z4 z5, M j = (z0, z1, z2, z3, z4, z5) → clB (M q) (M j) = (decide (x3 < z4) && decide (z3 < x4))) := fun j z0 z1 z2 z3 z4 z5 hj => by rw [hM, hj]; rfl
      have HMq : Hid (M q = (x0, x1, x2, x3, x4, x5)) := hM
      have HA1 : Hid (clA M n (q + 1) = clA M n q ++ clR M q n) := rfl
      have HOW : Hid (wr.ownsRow w.heap.size 47 2 u3 (clA M n q ++ clR M q (q + 1)).length (vrow (clA M n q ++ clR M q (q + 1)))) := by rw [Hid, clR_none M q (q + 1) (Nat.le_refl _), List.append_nil]; exact OW
      have HRO : Hid (∀ m, m ≤ n → (clA M n q ++ clR M q m).length ≤ 4096) := fun m h => clash_room HN60.out HQ.out h
      clear hf0 hM hlt OW
      go_wp2_with fail
      go_loopw [3, 5] (fun s3 kk wi => ∃ (m : Nat), q < m ∧ m ≤ n ∧ kk = .int .i64 m ∧ wi.ownsRow w.heap.size 47 2 s3 (clA M n q ++ clR M q m).length (vrow (clA M n q ++ clR M q m)) ∧ w.heap.size ≤ wi.heap.size ∧ Below w.heap.size w wi) (fun _ kk _ => n - (intOf kk).toNat)
      case atStart => exact ⟨q + 1, Nat.lt_succ_self _, HQ.out, by go_num, HOW.out, hjs, B⟩
      case round =>
        clear HOW B hjs
        obtain ⟨m, hqm, hm', rfl, OW, hjs, B⟩ := hrel
        by_cases hmn : m < n
        · have HM : Hid (m < n) := hmn
          have HQM : Hid (q < m) := hqm
          have hmi : (m : Int) < (n : Int) := by omega
          obtain ⟨y0, y1, y2, y3, y4, y5, hMm⟩ := tupFrame M m
          have hfi := HF0.out.below B HF0.out.1
          have hbb := hfi.1
          obtain ⟨c0, c1, c2, c3, c4, c5⟩ := hfi.elFrame HQ.out HMq.out
          obtain ⟨d0, d1, d2, d3, d4, d5⟩ := hfi.elFrame hmn hMm
          have CC := fun w' => l15Clash_any x0 x1 x2 x3 x4 x5 y0 y1 y2 y3 y4 y5 w'
          have hcl := HCL.out m _ _ _ _ _ _ hMm
          rw [← hcl] at CC
          have hlen := HRO.out m hm'
          cases hc : clB (M q) (M m)
          · have HE : Hid (clA M n q ++ clR M q (m + 1) = clA M n q ++ clR M q m) := by rw [Hid, clR_no hc]
            rw [hc] at CC
            clear hfi hMm hcl HCL HF0 HMq hm' hmn hc hqm hlen HRO HA1 HS
            generalize clA M n q ++ clR M q m = Lr at *
            have SK : Hid (∀ w', Below wr.heap.size wr w' → ((fun w' => w'.cell? ⟨b, off + q * 6, none⟩ = some (.int .i64 x0) ∧ w'.cell? ⟨b, off + q * 6 + 1, none⟩ = some (.int .i64 x1) ∧ w'.cell? ⟨b, off + q * 6 + 2, none⟩ = some (.int .i64 x2) ∧ w'.cell? ⟨b, off + q * 6 + 3, none⟩ = some (.int .i64 x3) ∧ w'.cell? ⟨b, off + q * 6 + 4, none⟩ = some (.int .i64 x4) ∧ w'.cell? ⟨b, off + q * 6 + 5, none⟩ = some (.string x5) ∧ w'.cell? ⟨b, off + m * 6, none⟩ = some (.int .i64 y0) ∧ w'.cell? ⟨b, off + m * 6 + 1, none⟩ = some (.int .i64 y1) ∧ w'.cell? ⟨b, off + m * 6 + 2, none⟩ = some (.int .i64 y2) ∧ w'.cell? ⟨b, off + m * 6 + 3, none⟩ = some (.int .i64 y3) ∧ w'.cell? ⟨b, off + m * 6 + 4, none⟩ = some (.int .i64 y4) ∧ w'.cell? ⟨b, off + m * 6 + 5, none⟩ = some (.string y5))) w') := fun w' hw => ⟨(by rw [hw.cell (p := ⟨b, off + q * 6, none⟩) hbb]; exact c0), (by rw [hw.cell (p := ⟨b, off + q * 6 + 1, none⟩) hbb]; exact c1), (by rw [hw.cell (p := ⟨b, off + q * 6 + 2, none⟩) hbb]; exact c2), (by rw [hw.cell (p := ⟨b, off + q * 6 + 3, none⟩) hbb]; exact c3), (by rw [hw.cell (p := ⟨b, off + q * 6 + 4, none⟩) hbb]; exact c4), (by rw [hw.cell (p := ⟨b, off + q * 6 + 5, none⟩) hbb]; exact c5), (by rw [hw.cell (p := ⟨b, off + m * 6, none⟩) hbb]; exact d0), (by rw [hw.cell (p := ⟨b, off + m * 6 + 1, none⟩) hbb]; exact d1), (by rw [hw.cell (p := ⟨b, off + m * 6 + 2, none⟩) hbb]; exact d2), (by rw [hw.cell (p := ⟨b, off + m * 6 + 3, none⟩) hbb]; exact d3), (by rw [hw.cell (p := ⟨b, off + m * 6 + 4, none⟩) hbb]; exact d4), (by rw [hw.cell (p := ⟨b, off + m * 6 + 5, none⟩) hbb]; exact d5)⟩
            clear c0 c1 c2 c3 c4 c5 d0 d1 d2 d3 d4 d5
            go_upto_region 10 with fail
            refine wp_region_held_drew (S := (fun w' => w'.cell? ⟨b, off + q * 6, none⟩ = some (.int .i64 x0) ∧ w'.cell? ⟨b, off + q * 6 + 1, none⟩ = some (.int .i64 x1) ∧ w'.cell? ⟨b, off + q * 6 + 2, none⟩ = some (.int .i64 x2) ∧ w'.cell? ⟨b, off + q * 6 + 3, none⟩ = some (.int .i64 x3) ∧ w'.cell? ⟨b, off + q * 6 + 4, none⟩ = some (.int .i64 x4) ∧ w'.cell? ⟨b, off + q * 6 + 5, none⟩ = some (.string x5) ∧ w'.cell? ⟨b, off + m * 6, none⟩ = some (.int .i64 y0) ∧ w'.cell? ⟨b, off + m * 6 + 1, none⟩ = some (.int .i64 y1) ∧ w'.cell? ⟨b, off + m * 6 + 2, none⟩ = some (.int .i64 y2) ∧ w'.cell? ⟨b, off + m * 6 + 3, none⟩ = some (.int .i64 y3) ∧ w'.cell? ⟨b, off + m * 6 + 4, none⟩ = some (.int .i64 y4) ∧ w'.cell? ⟨b, off + m * 6 + 5, none⟩ = some (.string y5))) (by kernel_rfl) ?_ (fun hHeld => ?_)
            · first | exact SK.out _ XB | exact SK.out _ (Below.drew (Below.refl _ _))
            have XB : Below wr.heap.size wr wr.drew := Below.drew (Below.refl _ _)
            generalize wr.drew = vx at *
            refine wpAnyH_take (i := 0) (v := ?_) (by rw [List.getElem?_toArray]; rfl) (by kernel_rfl) (by kernel_rfl) (by kernel_rfl) (by intro _ _ _ h; exact h) (Or.inl ⟨by rfl, ?_⟩) (by assumption) ?_
            rotate_left
            · (intro w hSw; (try dsimp only at hSw); go_simp; all_goals with_reducible rfl)
            (try simp only [Act.put, List.setIfInBounds_toArray, List.set_cons_zero, List.set_cons_succ])
            refine wpAnyH_take (i := 1) (v := ?_) (by rw [List.getElem?_toArray]; rfl) (by kernel_rfl) (by kernel_rfl) (by kernel_rfl) (by intro _ _ _ h; exact h) (Or.inl ⟨by rfl, ?_⟩) (by assumption) ?_
            rotate_left
            · (intro w hSw; (try dsimp only at hSw); go_simp; all_goals with_reducible rfl)
            (try simp only [Act.put, List.setIfInBounds_toArray, List.set_cons_zero, List.set_cons_succ])
            refine wpAnyH_take (i := 2) (v := ?_) (by rw [List.getElem?_toArray]; rfl) (by kernel_rfl) (by kernel_rfl) (by kernel_rfl) (by intro _ _ _ h; exact h) (Or.inl ⟨by rfl, ?_⟩) (by assumption) ?_
            rotate_left
            · (intro w hSw; (try dsimp only at hSw); go_simp; all_goals with_reducible rfl)
            (try simp only [Act.put, List.setIfInBounds_toArray, List.set_cons_zero, List.set_cons_succ])
            refine wpAnyH_take (i := 3) (v := ?_) (by rw [List.getElem?_toArray]; rfl) (by kernel_rfl) (by kernel_rfl) (by kernel_rfl) (by intro _ _ _ h; exact h) (Or.inl ⟨by rfl, ?_⟩) (by assumption) ?_
            rotate_left
            · (intro w hSw; (try dsimp only at hSw); go_simp; all_goals with_reducible rfl)
            (try simp only [Act.put, List.setIfInBounds_toArray, List.set_cons_zero, List.set_cons_succ])
            refine wpAnyH_take (i := 4) (v := ?_) (by rw [List.getElem?_toArray]; rfl) (by kernel_rfl) (by kernel_rfl) (by kernel_rfl) (by intro _ _ _ h; exact h) (Or.inl ⟨by rfl, ?_⟩) (by assumption) ?_
            rotate_left
            · (intro w hSw; (try dsimp only at hSw); go_simp; all_goals with_reducible rfl)
            (try simp only [Act.put, List.setIfInBounds_toArray, List.set_cons_zero, List.set_cons_succ])
            refine wpAnyH_take (i := 5) (v := ?_) (by rw [List.getElem?_toArray]; rfl) (by kernel_rfl) (by kernel_rfl) (by kernel_rfl) (by intro _ _ _ h; exact h) (Or.inl ⟨by rfl, ?_⟩) (by assumption) ?_
            rotate_left
            · (intro w hSw; (try dsimp only at hSw); go_simp; all_goals with_reducible rfl)
            (try simp only [Act.put, List.setIfInBounds_toArray, List.set_cons_zero, List.set_cons_succ])
            refine wpAnyH_take (i := 6) (v := ?_) (by rw [List.getElem?_toArray]; rfl) (by kernel_rfl) (by kernel_rfl) (by kernel_rfl) (by intro _ _ _ h; exact h) (Or.inl ⟨by rfl, ?_⟩) (by assumption) ?_
            rotate_left
            · (intro w hSw; (try dsimp only at hSw); go_simp; all_goals with_reducible rfl)
            (try simp only [Act.put, List.setIfInBounds_toArray, List.set_cons_zero, List.set_cons_succ])
            refine wpAnyH_take (i := 7) (v := ?_) (by rw [List.getElem?_toArray]; rfl) (by kernel_rfl) (by kernel_rfl) (by kernel_rfl) (by intro _ _ _ h; exact h) (Or.inl ⟨by rfl, ?_⟩) (by assumption) ?_
            rotate_left
            · (intro w hSw; (try dsimp only at hSw); go_simp; all_goals with_reducible rfl)
            (try simp only [Act.put, List.setIfInBounds_toArray, List.set_cons_zero, List.set_cons_succ])
            refine wpAnyH_ready (rs := [8]) (by kernel_rfl) (by simp) ?_
            refine AllReadyH.cons (by rw [List.getElem?_toArray]; rfl) (fun K hK => ?_) AllReadyH.nil
            go_simp
            refine (CC vx).mono ?_; rintro ee vx ⟨rfl, hbl⟩; (replace XB := XB.trans (hbl.mono XB.size)); (clear hbl)
            (try go_wp2_with fail)
            refine hK.out _ _ ?_ (fun hHeld => ?_)
            · first | exact SK.out _ XB | exact SK.out _ (Below.drew (Below.refl _ _))
            clear hK K
            (try simp only [Act.put, List.setIfInBounds_toArray, List.set_cons_zero, List.set_cons_succ])
            refine wpAnyH_done (by kernel_rfl) ?_ _
            replace OW := own_belK' OW XB
            replace hjs := Nat.le_trans hjs XB.size
            replace B := B.trans (XB.mono B.size)
            clear SK XB
            have HO9 : Hid (vx.ownsRow w.heap.size 47 2 u3 Lr.length (vrow Lr)) := OW
            clear OW
            go_wp2_with fail
            go_roundw
            case rel => exact ⟨m + 1, Nat.lt_succ_of_lt HQM.out, HM.out, by go_num, by rw [HE.out]; exact HO9.out, hjs, B⟩
            case measure => have hlt' := HM.out; simp [intOf]; omega
          · have HE : Hid (clA M n q ++ clR M q (m + 1) = (clA M n q ++ clR M q m) ++ [((q : Int), (m : Int))]) := by rw [Hid, clR_yes hqm hc, List.append_assoc]
            rw [hc] at CC
            clear hfi hMm hcl HCL HF0 HMq hm' hmn hc hqm HRO HA1 HS
            generalize clA M n q ++ clR M q m = Lr at *
            have SK : Hid (∀ w', Below wr.heap.size wr w' → ((fun w' => w'.cell? ⟨b, off + q * 6, none⟩ = some (.int .i64 x0) ∧ w'.cell? ⟨b, off + q * 6 + 1, none⟩ = some (.int .i64 x1) ∧ w'.cell? ⟨b, off + q * 6 + 2, none⟩ = some (.int .i64 x2) ∧ w'.cell? ⟨b, off + q * 6 + 3, none⟩ = some (.int .i64 x3) ∧ w'.cell? ⟨b, off + q * 6 + 4, none⟩ = some (.int .i64 x4) ∧ w'.cell? ⟨b, off + q * 6 + 5, none⟩ = some (.string x5) ∧ w'.cell? ⟨b, off + m * 6, none⟩ = some (.int .i64 y0) ∧ w'.cell? ⟨b, off + m * 6 + 1, none⟩ = some (.int .i64 y1) ∧ w'.cell? ⟨b, off + m * 6 + 2, none⟩ = some (.int .i64 y2) ∧ w'.cell? ⟨b, off + m * 6 + 3, none⟩ = some (.int .i64 y3) ∧ w'.cell? ⟨b, off + m * 6 + 4, none⟩ = some (.int .i64 y4) ∧ w'.cell? ⟨b, off + m * 6 + 5, none⟩ = some (.string y5))) w') := fun w' hw => ⟨(by rw [hw.cell (p := ⟨b, off + q * 6, none⟩) hbb]; exact c0), (by rw [hw.cell (p := ⟨b, off + q * 6 + 1, none⟩) hbb]; exact c1), (by rw [hw.cell (p := ⟨b, off + q * 6 + 2, none⟩) hbb]; exact c2), (by rw [hw.cell (p := ⟨b, off + q * 6 + 3, none⟩) hbb]; exact c3), (by rw [hw.cell (p := ⟨b, off + q * 6 + 4, none⟩) hbb]; exact c4), (by rw [hw.cell (p := ⟨b, off + q * 6 + 5, none⟩) hbb]; exact c5), (by rw [hw.cell (p := ⟨b, off + m * 6, none⟩) hbb]; exact d0), (by rw [hw.cell (p := ⟨b, off + m * 6 + 1, none⟩) hbb]; exact d1), (by rw [hw.cell (p := ⟨b, off + m * 6 + 2, none⟩) hbb]; exact d2), (by rw [hw.cell (p := ⟨b, off + m * 6 + 3, none⟩) hbb]; exact d3), (by rw [hw.cell (p := ⟨b, off + m * 6 + 4, none⟩) hbb]; exact d4), (by rw [hw.cell (p := ⟨b, off + m * 6 + 5, none⟩) hbb]; exact d5)⟩
            clear c0 c1 c2 c3 c4 c5 d0 d1 d2 d3 d4 d5
            go_upto_region 10 with fail
            refine wp_region_held_drew (S := (fun w' => w'.cell? ⟨b, off + q * 6, none⟩ = some (.int .i64 x0) ∧ w'.cell? ⟨b, off + q * 6 + 1, none⟩ = some (.int .i64 x1) ∧ w'.cell? ⟨b, off + q * 6 + 2, none⟩ = some (.int .i64 x2) ∧ w'.cell? ⟨b, off + q * 6 + 3, none⟩ = some (.int .i64 x3) ∧ w'.cell? ⟨b, off + q * 6 + 4, none⟩ = some (.int .i64 x4) ∧ w'.cell? ⟨b, off + q * 6 + 5, none⟩ = some (.string x5) ∧ w'.cell? ⟨b, off + m * 6, none⟩ = some (.int .i64 y0) ∧ w'.cell? ⟨b, off + m * 6 + 1, none⟩ = some (.int .i64 y1) ∧ w'.cell? ⟨b, off + m * 6 + 2, none⟩ = some (.int .i64 y2) ∧ w'.cell? ⟨b, off + m * 6 + 3, none⟩ = some (.int .i64 y3) ∧ w'.cell? ⟨b, off + m * 6 + 4, none⟩ = some (.int .i64 y4) ∧ w'.cell? ⟨b, off + m * 6 + 5, none⟩ = some (.string y5))) (by kernel_rfl) ?_ (fun hHeld => ?_)
            · first | exact SK.out _ XB | exact SK.out _ (Below.drew (Below.refl _ _))
            have XB : Below wr.heap.size wr wr.drew := Below.drew (Below.refl _ _)
            generalize wr.drew = vx at *
            refine wpAnyH_take (i := 0) (v := ?_) (by rw [List.getElem?_toArray]; rfl) (by kernel_rfl) (by kernel_rfl) (by kernel_rfl) (by intro _ _ _ h; exact h) (Or.inl ⟨by rfl, ?_⟩) (by assumption) ?_
            rotate_left
            · (intro w hSw; (try dsimp only at hSw); go_simp; all_goals with_reducible rfl)
            (try simp only [Act.put, List.setIfInBounds_toArray, List.set_cons_zero, List.set_cons_succ])
            refine wpAnyH_take (i := 1) (v := ?_) (by rw [List.getElem?_toArray]; rfl) (by kernel_rfl) (by kernel_rfl) (by kernel_rfl) (by intro _ _ _ h; exact h) (Or.inl ⟨by rfl, ?_⟩) (by assumption) ?_
            rotate_left
            · (intro w hSw; (try dsimp only at hSw); go_simp; all_goals with_reducible rfl)
            (try simp only [Act.put, List.setIfInBounds_toArray, List.set_cons_zero, List.set_cons_succ])
            refine wpAnyH_take (i := 2) (v := ?_) (by rw [List.getElem?_toArray]; rfl) (by kernel_rfl) (by kernel_rfl) (by kernel_rfl) (by intro _ _ _ h; exact h) (Or.inl ⟨by rfl, ?_⟩) (by assumption) ?_
            rotate_left
            · (intro w hSw; (try dsimp only at hSw); go_simp; all_goals with_reducible rfl)
            (try simp only [Act.put, List.setIfInBounds_toArray, List.set_cons_zero, List.set_cons_succ])
            refine wpAnyH_take (i := 3) (v := ?_) (by rw [List.getElem?_toArray]; rfl) (by kernel_rfl) (by kernel_rfl) (by kernel_rfl) (by intro _ _ _ h; exact h) (Or.inl ⟨by rfl, ?_⟩) (by assumption) ?_
            rotate_left
            · (intro w hSw; (try dsimp only at hSw); go_simp; all_goals with_reducible rfl)
            (try simp only [Act.put, List.setIfInBounds_toArray, List.set_cons_zero, List.set_cons_succ])
            refine wpAnyH_take (i := 4) (v := ?_) (by rw [List.getElem?_toArray]; rfl) (by kernel_rfl) (by kernel_rfl) (by kernel_rfl) (by intro _ _ _ h; exact h) (Or.inl ⟨by rfl, ?_⟩) (by assumption) ?_
            rotate_left
            · (intro w hSw; (try dsimp only at hSw); go_simp; all_goals with_reducible rfl)
            (try simp only [Act.put, List.setIfInBounds_toArray, List.set_cons_zero, List.set_cons_succ])
            refine wpAnyH_take (i := 5) (v := ?_) (by rw [List.getElem?_toArray]; rfl) (by kernel_rfl) (by kernel_rfl) (by kernel_rfl) (by intro _ _ _ h; exact h) (Or.inl ⟨by rfl, ?_⟩) (by assumption) ?_
            rotate_left
            · (intro w hSw; (try dsimp only at hSw); go_simp; all_goals with_reducible rfl)
            (try simp only [Act.put, List.setIfInBounds_toArray, List.set_cons_zero, List.set_cons_succ])
            refine wpAnyH_take (i := 6) (v := ?_) (by rw [List.getElem?_toArray]; rfl) (by kernel_rfl) (by kernel_rfl) (by kernel_rfl) (by intro _ _ _ h; exact h) (Or.inl ⟨by rfl, ?_⟩) (by assumption) ?_
            rotate_left
            · (intro w hSw; (try dsimp only at hSw); go_simp; all_goals with_reducible rfl)
            (try simp only [Act.put, List.setIfInBounds_toArray, List.set_cons_zero, List.set_cons_succ])
            refine wpAnyH_take (i := 7) (v := ?_) (by rw [List.getElem?_toArray]; rfl) (by kernel_rfl) (by kernel_rfl) (by kernel_rfl) (by intro _ _ _ h; exact h) (Or.inl ⟨by rfl, ?_⟩) (by assumption) ?_
            rotate_left
            · (intro w hSw; (try dsimp only at hSw); go_simp; all_goals with_reducible rfl)
            (try simp only [Act.put, List.setIfInBounds_toArray, List.set_cons_zero, List.set_cons_succ])
            refine wpAnyH_ready (rs := [8]) (by kernel_rfl) (by simp) ?_
            refine AllReadyH.cons (by rw [List.getElem?_toArray]; rfl) (fun K hK => ?_) AllReadyH.nil
            go_simp
            refine (CC vx).mono ?_; rintro ee vx ⟨rfl, hbl⟩; (replace XB := XB.trans (hbl.mono XB.size)); (clear hbl)
            (try go_wp2_with fail)
            refine hK.out _ _ ?_ (fun hHeld => ?_)
            · first | exact SK.out _ XB | exact SK.out _ (Below.drew (Below.refl _ _))
            clear hK K
            (try simp only [Act.put, List.setIfInBounds_toArray, List.set_cons_zero, List.set_cons_succ])
            refine wpAnyH_done (by kernel_rfl) ?_ _
            replace OW := own_belK' OW XB
            replace hjs := Nat.le_trans hjs XB.size
            replace B := B.trans (XB.mono B.size)
            clear SK XB
            go_upto_region 9 with (at_builtin; refine add_clash rfl _ _ rfl w.heap.size Lr _ rfl OW rfl hlen hjs ?_; intro v' w9 O9 hg9 hn9)
            have HO9 : Hid (w9.ownsRow w.heap.size 47 2 v' (Lr ++ [((q : Int), (m : Int))]).length (vrow (Lr ++ [((q : Int), (m : Int))]))) := O9
            have B9 := B.trans (grown_belowK OW hg9 hjs)
            have hj9 : w.heap.size ≤ w9.heap.size := Nat.le_trans hjs hg9.size
            clear O9 OW hg9 hn9 B hjs
            go_wp2_with fail
            go_roundw
            case rel => exact ⟨m + 1, Nat.lt_succ_of_lt HQM.out, HM.out, by go_num, by rw [HE.out]; exact HO9.out, hj9, B9⟩
            case measure => have hlt' := HM.out; simp [intOf]; omega
        · have hmm' : m = n := by omega
          subst hmm'
          have hmi : ¬ (m : Int) < (m : Int) := by omega
          clear hqm hm' hmn HCL HF0 HMq HRO HS
          rw [← HA1.out] at OW
          have HO9 : Hid (wr.ownsRow w.heap.size 47 2 u3 (clA M m (q + 1)).length (vrow (clA M m (q + 1)))) := OW
          clear OW
          go_wp2_with fail
          go_roundw
          case rel => exact ⟨q + 1, HQ.out, by go_num, HO9.out, hjs, B⟩
          case measure => have hlt' := HQ.out; simp [intOf]; omega
    · have hkn : q = n := by omega
      subst hkn
      have hli : ¬ (q : Int) < (q : Int) := by omega
      go_wp2_with fail
      go_ret
      exact ⟨_, rfl, OW, B⟩
end Go.Proofs.Ytnjoldjefknpbaa
