/- BusHeard in the specification. -/
import Derived.Test.YtnjoldjefknpbaaQ153
import Derived.Deep.RegionHeld3
import Derived.Deep.DeepCutAuto
import Derived.WalkKit
import Derived.WalkSpells
import Derived.WalkLawsBesides
import Derived.Deep.RegionHeld
namespace Go.Proofs.Ytnjoldjefknpbaa
open Go.RowKit
set_option linter.unusedVariables false
/- Does the frame i end by t, and clash with none of the first k but itself? -/
def hdA (M : Nat → FrT) (t : Int) (i : Nat) : Nat → Bool
  | 0 => decide (fEn (M i) ≤ t)
  | k + 1 => match (!decide (k = i) && clB (M i) (M k)) with | true => false | false => hdA M t i k
theorem hdA_yes {M : Nat → FrT} {t : Int} {i k : Nat} (h : k ≠ i) (hc : clB (M i) (M k) = true) : hdA M t i (k + 1) = false := by
  rw [hdA, decide_eq_false h, hc]; rfl
theorem hdA_no {M : Nat → FrT} {t : Int} {i k : Nat} (hc : clB (M i) (M k) = false) : hdA M t i (k + 1) = hdA M t i k := by
  rw [hdA, hc, Bool.and_false]
theorem hdA_self (M : Nat → FrT) (t : Int) (i : Nat) : hdA M t i (i + 1) = hdA M t i i := by
  rw [hdA, decide_eq_true rfl]; rfl
def heL (M : Nat → FrT) (n : Nat) (t : Int) : List Int := match buB M n with | true => slI (fun i => hdA M t i n) n | false => []
set_option maxRecDepth 100000 in
set_option maxHeartbeats 8000000 in
theorem specBusHeard_any (a : Option Addr) (n c : Nat) (M : Nat → FrT) (t : Int) (w : World) (hm : n ≤ maxLen) (hs : SrcC w a (n * 6) (MFFrame M)) (hz : ∀ i, i < n → (M i).2.2.2.2.2.size ≤ maxLen) :
    Calls Try.prog 57 #[.slice a n c, .int .i64 t] w fun e w' => ∃ v, e = .returned v ∧ w'.ownsRow w.heap.size 3 1 v (heL M n t).length (irow (heL M n t)) ∧ Below w.heap.size w w' := by
  have B := Below.nw w (.cells #[] 3)
  have OW := made_int w
  have hjs : w.heap.size ≤ (w.alloc (.cells #[] 3)).heap.size := B.size
  have HS : Hid (SrcC w a (n * 6) (MFFrame M)) := hs
  clear hs
  have C1 := fun w' h => specBusOk_any a n c M w' hm h hz
  have hmm := hm
  unfold maxLen at hmm
  cases h1 : buB M n
  · have e0 : heL M n t = [] := by unfold heL; rw [h1]
    rw [e0]
    rw [h1] at C1
    clear e0
    have hn0 : 0 < n := by
      rcases Nat.eq_zero_or_pos n with q | q
      · subst q; rw [buB_zero] at h1; exact absurd h1 (by decide)
      · exact q
    have hli : ((0 : Nat) : Int) < (n : Int) := by omega
    go_enter Try.func57, Try.ntmps57
    go_upto_region 2 with fail
    generalize w.alloc (.cells #[] 3) = v at *
    go_wp2_with fail
    go_loopw [5, 6, 7, 8] (fun s5 i _ _ wr => s5 = .slice (some ⟨w.heap.size, 0, none⟩) 0 0 ∧ i = .int .i64 ((0 : Nat) : Int) ∧ wr.ownsRow w.heap.size 3 1 (.slice (some ⟨w.heap.size, 0, none⟩) 0 0) ([] : List Int).length (irow []) ∧ Below w.heap.size w wr) (fun _ i _ _ _ => 0)
    case atStart => exact ⟨rfl, rfl, OW, B⟩
    case round =>
      clear OW B hjs
      obtain ⟨rfl, rfl, OW, B⟩ := hrel
      go_wp2_with fail
      refine (C1 _ (HS.out.below B)).mono ?_
      rintro e v1 ⟨rfl, hb⟩
      replace B := B.trans (hb.mono B.size)
      replace OW := own_belK' OW hb
      clear hb
      go_wp2_with fail
      go_ret
      exact ⟨_, rfl, OW, B⟩
  have e0 : heL M n t = slI (fun i => hdA M t i n) n := by unfold heL; rw [h1]
  rw [e0]
  rw [h1] at C1
  have hn60 := (buB_t h1).1
  obtain ⟨P, hPd⟩ : ∃ P : Nat → Bool, P = fun i => hdA M t i n := ⟨_, rfl⟩
  rw [← hPd]
  have HPP : Hid (∀ j, P j = hdA M t j n) := fun j => by rw [hPd]
  clear hPd
  have HY : Hid (∀ j, P j = true → slI P (j + 1) = slI P j ++ [(j : Int)]) := fun j h => slI_yes h
  have HX : Hid (∀ j, P j = false → slI P (j + 1) = slI P j) := fun j h => slI_no h
  have HLN : Hid (∀ j, (slI P j).length ≤ j) := slI_len P
  have HL0 : Hid (slI P 0 = []) := rfl
  clear e0 h1 hz hm
  generalize slI P = L at *
  go_enter Try.func57, Try.ntmps57
  go_upto_region 2 with fail
  generalize w.alloc (.cells #[] 3) = v at *
  go_wp2_with fail
  go_loopw [5, 6, 7, 8] (fun s5 i _ _ wr => ∃ (q : Nat), q ≤ n ∧ i = .int .i64 q ∧ wr.ownsRow w.heap.size 3 1 s5 (L q).length (irow (L q)) ∧ w.heap.size ≤ wr.heap.size ∧ Below w.heap.size w wr) (fun _ i _ _ _ => n - (intOf i).toNat)
  case atStart => exact ⟨0, Nat.zero_le _, rfl, by rw [HL0.out]; exact OW, hjs, B⟩
  case round =>
    clear OW B hjs
    obtain ⟨q, hq, rfl, OW, hjs, B⟩ := hrel
    by_cases hlt : q < n
    · have hli : (q : Int) < (n : Int) := by omega
      have HQ : Hid (q < n) := hlt
      go_wp2_with fail
      refine (C1 _ (HS.out.below B)).mono ?_
      rintro e v1 ⟨rfl, hb⟩
      replace B := B.trans (hb.mono B.size)
      replace OW := own_belK' OW hb
      replace hjs := Nat.le_trans hjs hb.size
      clear hb hq
      obtain ⟨x0, x1, x2, x3, x4, x5, hM⟩ := tupFrame M q
      obtain ⟨b, off, rfl, hf0⟩ : ∃ b off, a = some ⟨b, off, none⟩ ∧ Cs w b off (n * 6) (MFFrame M) := by
        rcases HS.out with r | r
        · exact absurd r (by omega)
        · exact r
      have HF0 : Hid (Cs w b off (n * 6) (MFFrame M)) := hf0
      have hf := hf0.below B hf0.1
      obtain ⟨-, -, -, -, c4, -⟩ := hf.elFrame hlt hM
      have HE0 : Hid (hdA M t q 0 = decide (x4 ≤ t)) := by rw [Hid, hdA, hM]; rfl
      have HCL : Hid (∀ j z0 z1 z2 z3 z4 z5, M j = (z0, z1, z2, z3, z4, z5) → clB (M q) (M j) = (decide (x3 < z4) && decide (z3 < x4))) := fun j z0 z1 z2 z3 z4 z5 hj => by rw [hM, hj]; rfl
      have HMq : Hid (M q = (x0, x1, x2, x3, x4, x5)) := hM
      have hln := HLN.out q
      have hlen : (L q).length ≤ 64 := by omega
      have HPq := HPP.out q
      have HYq : Hid (P q = true → L (q + 1) = L q ++ [(q : Int)]) := HY.out q
      have HXq : Hid (P q = false → L (q + 1) = L q) := HX.out q
      clear hf hf0 hM hlt hln HY HX HPP HLN HL0
      generalize L q = Lq at *
      generalize hde : decide (x4 ≤ t) = de at *
      go_wp2_with fail
      clear c4
      go_loopw [7, 8] (fun al kk wi => ∃ (m : Nat), m ≤ n ∧ kk = .int .i64 m ∧ al = .bool (hdA M t q m) ∧ wi.ownsRow w.heap.size 3 1 u5 Lq.length (irow Lq) ∧ w.heap.size ≤ wi.heap.size ∧ Below w.heap.size w wi) (fun _ kk _ => n - (intOf kk).toNat)
      case atStart => exact ⟨0, Nat.zero_le _, rfl, by rw [HE0.out], OW, hjs, B⟩
      case round =>
        clear OW B hjs
        obtain ⟨m, hm', rfl, rfl, OW, hjs, B⟩ := hrel
        by_cases hmn : m < n
        · have HM : Hid (m < n) := hmn
          have hmi : (m : Int) < (n : Int) := by omega
          obtain ⟨y0, y1, y2, y3, y4, y5, hMm⟩ := tupFrame M m
          have hfi := HF0.out.below B HF0.out.1
          have hbb := hfi.1
          obtain ⟨c0, c1, c2, c3, c4, c5⟩ := hfi.elFrame HQ.out HMq.out
          obtain ⟨d0, d1, d2, d3, d4, d5⟩ := hfi.elFrame hmn hMm
          have CC := fun w' => l15Clash_any x0 x1 x2 x3 x4 x5 y0 y1 y2 y3 y4 y5 w'
          have hcl := HCL.out m _ _ _ _ _ _ hMm
          rw [← hcl] at CC
          by_cases hmq : m = q
          · have HE : Hid ((.bool (hdA M t q m) : Value) = .bool (hdA M t q (m + 1))) := by rw [Hid, hmq, hdA_self]
            have hne : ((m : Int) != (q : Int)) = false := by rw [hmq]; simp
            clear hfi hMm hcl HCL HF0 HMq HE0 CC hm' hmn
            generalize hdA M t q m = al at *
            have SK : Hid (∀ w', Below wr.heap.size wr w' → ((fun w' => w'.cell? ⟨b, off + q * 6, none⟩ = some (.int .i64 x0) ∧ w'.cell? ⟨b, off + q * 6 + 1, none⟩ = some (.int .i64 x1) ∧ w'.cell? ⟨b, off + q * 6 + 2, none⟩ = some (.int .i64 x2) ∧ w'.cell? ⟨b, off + q * 6 + 3, none⟩ = some (.int .i64 x3) ∧ w'.cell? ⟨b, off + q * 6 + 4, none⟩ = some (.int .i64 x4) ∧ w'.cell? ⟨b, off + q * 6 + 5, none⟩ = some (.string x5) ∧ w'.cell? ⟨b, off + m * 6, none⟩ = some (.int .i64 y0) ∧ w'.cell? ⟨b, off + m * 6 + 1, none⟩ = some (.int .i64 y1) ∧ w'.cell? ⟨b, off + m * 6 + 2, none⟩ = some (.int .i64 y2) ∧ w'.cell? ⟨b, off + m * 6 + 3, none⟩ = some (.int .i64 y3) ∧ w'.cell? ⟨b, off + m * 6 + 4, none⟩ = some (.int .i64 y4) ∧ w'.cell? ⟨b, off + m * 6 + 5, none⟩ = some (.string y5))) w') := fun w' hw => ⟨(by rw [hw.cell (p := ⟨b, off + q * 6, none⟩) hbb]; exact c0), (by rw [hw.cell (p := ⟨b, off + q * 6 + 1, none⟩) hbb]; exact c1), (by rw [hw.cell (p := ⟨b, off + q * 6 + 2, none⟩) hbb]; exact c2), (by rw [hw.cell (p := ⟨b, off + q * 6 + 3, none⟩) hbb]; exact c3), (by rw [hw.cell (p := ⟨b, off + q * 6 + 4, none⟩) hbb]; exact c4), (by rw [hw.cell (p := ⟨b, off + q * 6 + 5, none⟩) hbb]; exact c5), (by rw [hw.cell (p := ⟨b, off + m * 6, none⟩) hbb]; exact d0), (by rw [hw.cell (p := ⟨b, off + m * 6 + 1, none⟩) hbb]; exact d1), (by rw [hw.cell (p := ⟨b, off + m * 6 + 2, none⟩) hbb]; exact d2), (by rw [hw.cell (p := ⟨b, off + m * 6 + 3, none⟩) hbb]; exact d3), (by rw [hw.cell (p := ⟨b, off + m * 6 + 4, none⟩) hbb]; exact d4), (by rw [hw.cell (p := ⟨b, off + m * 6 + 5, none⟩) hbb]; exact d5)⟩
            clear c0 c1 c2 c3 c4 c5 d0 d1 d2 d3 d4 d5
            go_upto_region 9 with fail
            refine wp_region_held_drew (S := (fun w' => w'.cell? ⟨b, off + q * 6, none⟩ = some (.int .i64 x0) ∧ w'.cell? ⟨b, off + q * 6 + 1, none⟩ = some (.int .i64 x1) ∧ w'.cell? ⟨b, off + q * 6 + 2, none⟩ = some (.int .i64 x2) ∧ w'.cell? ⟨b, off + q * 6 + 3, none⟩ = some (.int .i64 x3) ∧ w'.cell? ⟨b, off + q * 6 + 4, none⟩ = some (.int .i64 x4) ∧ w'.cell? ⟨b, off + q * 6 + 5, none⟩ = some (.string x5) ∧ w'.cell? ⟨b, off + m * 6, none⟩ = some (.int .i64 y0) ∧ w'.cell? ⟨b, off + m * 6 + 1, none⟩ = some (.int .i64 y1) ∧ w'.cell? ⟨b, off + m * 6 + 2, none⟩ = some (.int .i64 y2) ∧ w'.cell? ⟨b, off + m * 6 + 3, none⟩ = some (.int .i64 y3) ∧ w'.cell? ⟨b, off + m * 6 + 4, none⟩ = some (.int .i64 y4) ∧ w'.cell? ⟨b, off + m * 6 + 5, none⟩ = some (.string y5))) (by kernel_rfl) ?_ (fun hHeld => ?_)
            · first | exact SK.out _ XB | exact SK.out _ (Below.drew (Below.refl _ _))
            have XB : Below wr.heap.size wr wr.drew := Below.drew (Below.refl _ _)
            generalize wr.drew = vx at *
            refine wpAnyH_take (i := 0) (v := ?_) (by rw [List.getElem?_toArray]; rfl) (by kernel_rfl) (by kernel_rfl) (by kernel_rfl) (by intro _ _ _ h; exact h) (Or.inl ⟨by rfl, ?_⟩) (by assumption) ?_
            rotate_left
            · (intro w hSw; (try dsimp only at hSw); go_simp; all_goals with_reducible rfl)
            (try simp only [Act.put, List.setIfInBounds_toArray, List.set_cons_zero, List.set_cons_succ])
            refine wpAnyH_take (i := 1) (v := ?_) (by rw [List.getElem?_toArray]; rfl) (by kernel_rfl) (by kernel_rfl) (by kernel_rfl) (by intro _ _ _ h; exact h) (Or.inl ⟨by rfl, ?_⟩) (by assumption) ?_
            rotate_left
            · (intro w hSw; (try dsimp only at hSw); go_simp; all_goals with_reducible rfl)
            (try simp only [Act.put, List.setIfInBounds_toArray, List.set_cons_zero, List.set_cons_succ])
            refine wpAnyH_take (i := 2) (v := ?_) (by rw [List.getElem?_toArray]; rfl) (by kernel_rfl) (by kernel_rfl) (by kernel_rfl) (by intro _ _ _ h; exact h) (Or.inl ⟨by rfl, ?_⟩) (by assumption) ?_
            rotate_left
            · (intro w hSw; (try dsimp only at hSw); go_simp; all_goals with_reducible rfl)
            (try simp only [Act.put, List.setIfInBounds_toArray, List.set_cons_zero, List.set_cons_succ])
            (try simp only [hne])
            refine wpAnyH_take (i := 3) (v := ?_) (by rw [List.getElem?_toArray]; rfl) (by kernel_rfl) (by kernel_rfl) (by kernel_rfl) (by intro _ _ _ h; exact h) (Or.inl ⟨by rfl, ?_⟩) (by assumption) ?_
            rotate_left
            · (intro w hSw; (try dsimp only at hSw); go_simp; all_goals with_reducible rfl)
            (try simp only [Act.put, List.setIfInBounds_toArray, List.set_cons_zero, List.set_cons_succ])
            refine wpAnyH_take (i := 4) (v := undef) (by rw [List.getElem?_toArray]; rfl) (by kernel_rfl) (by kernel_rfl) (by kernel_rfl) (by intro _ _ _ h; exact h) (Or.inr ⟨by rfl, rfl⟩) (by assumption) ?_
            (try simp only [Act.put, List.setIfInBounds_toArray, List.set_cons_zero, List.set_cons_succ])
            refine wpAnyH_take (i := 5) (v := undef) (by rw [List.getElem?_toArray]; rfl) (by kernel_rfl) (by kernel_rfl) (by kernel_rfl) (by intro _ _ _ h; exact h) (Or.inr ⟨by rfl, rfl⟩) (by assumption) ?_
            (try simp only [Act.put, List.setIfInBounds_toArray, List.set_cons_zero, List.set_cons_succ])
            refine wpAnyH_take (i := 6) (v := undef) (by rw [List.getElem?_toArray]; rfl) (by kernel_rfl) (by kernel_rfl) (by kernel_rfl) (by intro _ _ _ h; exact h) (Or.inr ⟨by rfl, rfl⟩) (by assumption) ?_
            (try simp only [Act.put, List.setIfInBounds_toArray, List.set_cons_zero, List.set_cons_succ])
            refine wpAnyH_take (i := 7) (v := undef) (by rw [List.getElem?_toArray]; rfl) (by kernel_rfl) (by kernel_rfl) (by kernel_rfl) (by intro _ _ _ h; exact h) (Or.inr ⟨by rfl, rfl⟩) (by assumption) ?_
            (try simp only [Act.put, List.setIfInBounds_toArray, List.set_cons_zero, List.set_cons_succ])
            refine wpAnyH_take (i := 8) (v := undef) (by rw [List.getElem?_toArray]; rfl) (by kernel_rfl) (by kernel_rfl) (by kernel_rfl) (by intro _ _ _ h; exact h) (Or.inr ⟨by rfl, rfl⟩) (by assumption) ?_
            (try simp only [Act.put, List.setIfInBounds_toArray, List.set_cons_zero, List.set_cons_succ])
            refine wpAnyH_take (i := 9) (v := undef) (by rw [List.getElem?_toArray]; rfl) (by kernel_rfl) (by kernel_rfl) (by kernel_rfl) (by intro _ _ _ h; exact h) (Or.inr ⟨by rfl, rfl⟩) (by assumption) ?_
            (try simp only [Act.put, List.setIfInBounds_toArray, List.set_cons_zero, List.set_cons_succ])
            refine wpAnyH_take (i := 10) (v := undef) (by rw [List.getElem?_toArray]; rfl) (by kernel_rfl) (by kernel_rfl) (by kernel_rfl) (by intro _ _ _ h; exact h) (Or.inr ⟨by rfl, rfl⟩) (by assumption) ?_
            (try simp only [Act.put, List.setIfInBounds_toArray, List.set_cons_zero, List.set_cons_succ])
            refine wpAnyH_take (i := 11) (v := undef) (by rw [List.getElem?_toArray]; rfl) (by kernel_rfl) (by kernel_rfl) (by kernel_rfl) (by intro _ _ _ h; exact h) (Or.inr ⟨by rfl, rfl⟩) (by assumption) ?_
            (try simp only [Act.put, List.setIfInBounds_toArray, List.set_cons_zero, List.set_cons_succ])
            refine wpAnyH_take (i := 12) (v := undef) (by rw [List.getElem?_toArray]; rfl) (by kernel_rfl) (by kernel_rfl) (by kernel_rfl) (by intro _ _ _ h; exact h) (Or.inr ⟨by rfl, rfl⟩) (by assumption) ?_
            (try simp only [Act.put, List.setIfInBounds_toArray, List.set_cons_zero, List.set_cons_succ])
            refine wpAnyH_take (i := 13) (v := ?_) (by rw [List.getElem?_toArray]; rfl) (by kernel_rfl) (by kernel_rfl) (by kernel_rfl) (by intro _ _ _ h; exact h) (Or.inl ⟨by rfl, ?_⟩) (by assumption) ?_
            rotate_left
            · (intro w hSw; (try dsimp only at hSw); go_simp; all_goals with_reducible rfl)
            (try simp only [Act.put, List.setIfInBounds_toArray, List.set_cons_zero, List.set_cons_succ])
            refine wpAnyH_done (by kernel_rfl) ?_ _
            replace OW := own_belK' OW XB
            replace hjs := Nat.le_trans hjs XB.size
            replace B := B.trans (XB.mono B.size)
            clear SK XB
            have HO9 : Hid (vx.ownsRow w.heap.size 3 1 u5 Lq.length (irow Lq)) := OW
            clear OW
            go_wp2_with fail
            go_roundw
            case rel => exact ⟨m + 1, HM.out, by go_num, HE.out, HO9.out, hjs, B⟩
            case measure => have hlt' := HM.out; simp [intOf]; omega
          · have hne : ((m : Int) != (q : Int)) = true := by rw [bne_iff_ne]; omega
            cases hc : clB (M q) (M m)
            · have HE : Hid ((.bool (hdA M t q m) : Value) = .bool (hdA M t q (m + 1))) := by rw [Hid, hdA_no hc]
              rw [hc] at CC
              clear hfi hMm hcl HCL HF0 HMq HE0 hm' hmn hc
              generalize hdA M t q m = al at *
              have SK : Hid (∀ w', Below wr.heap.size wr w' → ((fun w' => w'.cell? ⟨b, off + q * 6, none⟩ = some (.int .i64 x0) ∧ w'.cell? ⟨b, off + q * 6 + 1, none⟩ = some (.int .i64 x1) ∧ w'.cell? ⟨b, off + q * 6 + 2, none⟩ = some (.int .i64 x2) ∧ w'.cell? ⟨b, off + q * 6 + 3, none⟩ = some (.int .i64 x3) ∧ w'.cell? ⟨b, off + q * 6 + 4, none⟩ = some (.int .i64 x4) ∧ w'.cell? ⟨b, off + q * 6 + 5, none⟩ = some (.string x5) ∧ w'.cell? ⟨b, off + m * 6, none⟩ = some (.int .i64 y0) ∧ w'.cell? ⟨b, off + m * 6 + 1, none⟩ = some (.int .i64 y1) ∧ w'.cell? ⟨b, off + m * 6 + 2, none⟩ = some (.int .i64 y2) ∧ w'.cell? ⟨b, off + m * 6 + 3, none⟩ = some (.int .i64 y3) ∧ w'.cell? ⟨b, off + m * 6 + 4, none⟩ = some (.int .i64 y4) ∧ w'.cell? ⟨b, off + m * 6 + 5, none⟩ = some (.string y5))) w') := fun w' hw => ⟨(by rw [hw.cell (p := ⟨b, off + q * 6, none⟩) hbb]; exact c0), (by rw [hw.cell (p := ⟨b, off + q * 6 + 1, none⟩) hbb]; exact c1), (by rw [hw.cell (p := ⟨b, off + q * 6 + 2, none⟩) hbb]; exact c2), (by rw [hw.cell (p := ⟨b, off + q * 6 + 3, none⟩) hbb]; exact c3), (by rw [hw.cell (p := ⟨b, off + q * 6 + 4, none⟩) hbb]; exact c4), (by rw [hw.cell (p := ⟨b, off + q * 6 + 5, none⟩) hbb]; exact c5), (by rw [hw.cell (p := ⟨b, off + m * 6, none⟩) hbb]; exact d0), (by rw [hw.cell (p := ⟨b, off + m * 6 + 1, none⟩) hbb]; exact d1), (by rw [hw.cell (p := ⟨b, off + m * 6 + 2, none⟩) hbb]; exact d2), (by rw [hw.cell (p := ⟨b, off + m * 6 + 3, none⟩) hbb]; exact d3), (by rw [hw.cell (p := ⟨b, off + m * 6 + 4, none⟩) hbb]; exact d4), (by rw [hw.cell (p := ⟨b, off + m * 6 + 5, none⟩) hbb]; exact d5)⟩
              clear c0 c1 c2 c3 c4 c5 d0 d1 d2 d3 d4 d5
              go_upto_region 9 with fail
              refine wp_region_held_drew (S := (fun w' => w'.cell? ⟨b, off + q * 6, none⟩ = some (.int .i64 x0) ∧ w'.cell? ⟨b, off + q * 6 + 1, none⟩ = some (.int .i64 x1) ∧ w'.cell? ⟨b, off + q * 6 + 2, none⟩ = some (.int .i64 x2) ∧ w'.cell? ⟨b, off + q * 6 + 3, none⟩ = some (.int .i64 x3) ∧ w'.cell? ⟨b, off + q * 6 + 4, none⟩ = some (.int .i64 x4) ∧ w'.cell? ⟨b, off + q * 6 + 5, none⟩ = some (.string x5) ∧ w'.cell? ⟨b, off + m * 6, none⟩ = some (.int .i64 y0) ∧ w'.cell? ⟨b, off + m * 6 + 1, none⟩ = some (.int .i64 y1) ∧ w'.cell? ⟨b, off + m * 6 + 2, none⟩ = some (.int .i64 y2) ∧ w'.cell? ⟨b, off + m * 6 + 3, none⟩ = some (.int .i64 y3) ∧ w'.cell? ⟨b, off + m * 6 + 4, none⟩ = some (.int .i64 y4) ∧ w'.cell? ⟨b, off + m * 6 + 5, none⟩ = some (.string y5))) (by kernel_rfl) ?_ (fun hHeld => ?_)
              · first | exact SK.out _ XB | exact SK.out _ (Below.drew (Below.refl _ _))
              have XB : Below wr.heap.size wr wr.drew := Below.drew (Below.refl _ _)
              generalize wr.drew = vx at *
              refine wpAnyH_take (i := 0) (v := ?_) (by rw [List.getElem?_toArray]; rfl) (by kernel_rfl) (by kernel_rfl) (by kernel_rfl) (by intro _ _ _ h; exact h) (Or.inl ⟨by rfl, ?_⟩) (by assumption) ?_
              rotate_left
              · (intro w hSw; (try dsimp only at hSw); go_simp; all_goals with_reducible rfl)
              (try simp only [Act.put, List.setIfInBounds_toArray, List.set_cons_zero, List.set_cons_succ])
              refine wpAnyH_take (i := 1) (v := ?_) (by rw [List.getElem?_toArray]; rfl) (by kernel_rfl) (by kernel_rfl) (by kernel_rfl) (by intro _ _ _ h; exact h) (Or.inl ⟨by rfl, ?_⟩) (by assumption) ?_
              rotate_left
              · (intro w hSw; (try dsimp only at hSw); go_simp; all_goals with_reducible rfl)
              (try simp only [Act.put, List.setIfInBounds_toArray, List.set_cons_zero, List.set_cons_succ])
              refine wpAnyH_take (i := 2) (v := ?_) (by rw [List.getElem?_toArray]; rfl) (by kernel_rfl) (by kernel_rfl) (by kernel_rfl) (by intro _ _ _ h; exact h) (Or.inl ⟨by rfl, ?_⟩) (by assumption) ?_
              rotate_left
              · (intro w hSw; (try dsimp only at hSw); go_simp; all_goals with_reducible rfl)
              (try simp only [Act.put, List.setIfInBounds_toArray, List.set_cons_zero, List.set_cons_succ])
              (try simp only [hne])
              refine wpAnyH_take (i := 3) (v := ?_) (by rw [List.getElem?_toArray]; rfl) (by kernel_rfl) (by kernel_rfl) (by kernel_rfl) (by intro _ _ _ h; exact h) (Or.inl ⟨by rfl, ?_⟩) (by assumption) ?_
              rotate_left
              · (intro w hSw; (try dsimp only at hSw); go_simp; all_goals with_reducible rfl)
              (try simp only [Act.put, List.setIfInBounds_toArray, List.set_cons_zero, List.set_cons_succ])
              refine wpAnyH_take (i := 4) (v := ?_) (by rw [List.getElem?_toArray]; rfl) (by kernel_rfl) (by kernel_rfl) (by kernel_rfl) (by intro _ _ _ h; exact h) (Or.inl ⟨by rfl, ?_⟩) (by assumption) ?_
              rotate_left
              · (intro w hSw; (try dsimp only at hSw); go_simp; all_goals with_reducible rfl)
              (try simp only [Act.put, List.setIfInBounds_toArray, List.set_cons_zero, List.set_cons_succ])
              refine wpAnyH_take (i := 5) (v := ?_) (by rw [List.getElem?_toArray]; rfl) (by kernel_rfl) (by kernel_rfl) (by kernel_rfl) (by intro _ _ _ h; exact h) (Or.inl ⟨by rfl, ?_⟩) (by assumption) ?_
              rotate_left
              · (intro w hSw; (try dsimp only at hSw); go_simp; all_goals with_reducible rfl)
              (try simp only [Act.put, List.setIfInBounds_toArray, List.set_cons_zero, List.set_cons_succ])
              refine wpAnyH_take (i := 6) (v := ?_) (by rw [List.getElem?_toArray]; rfl) (by kernel_rfl) (by kernel_rfl) (by kernel_rfl) (by intro _ _ _ h; exact h) (Or.inl ⟨by rfl, ?_⟩) (by assumption) ?_
              rotate_left
              · (intro w hSw; (try dsimp only at hSw); go_simp; all_goals with_reducible rfl)
              (try simp only [Act.put, List.setIfInBounds_toArray, List.set_cons_zero, List.set_cons_succ])
              refine wpAnyH_take (i := 7) (v := ?_) (by rw [List.getElem?_toArray]; rfl) (by kernel_rfl) (by kernel_rfl) (by kernel_rfl) (by intro _ _ _ h; exact h) (Or.inl ⟨by rfl, ?_⟩) (by assumption) ?_
              rotate_left
              · (intro w hSw; (try dsimp only at hSw); go_simp; all_goals with_reducible rfl)
              (try simp only [Act.put, List.setIfInBounds_toArray, List.set_cons_zero, List.set_cons_succ])
              refine wpAnyH_take (i := 8) (v := ?_) (by rw [List.getElem?_toArray]; rfl) (by kernel_rfl) (by kernel_rfl) (by kernel_rfl) (by intro _ _ _ h; exact h) (Or.inl ⟨by rfl, ?_⟩) (by assumption) ?_
              rotate_left
              · (intro w hSw; (try dsimp only at hSw); go_simp; all_goals with_reducible rfl)
              (try simp only [Act.put, List.setIfInBounds_toArray, List.set_cons_zero, List.set_cons_succ])
              refine wpAnyH_take (i := 9) (v := ?_) (by rw [List.getElem?_toArray]; rfl) (by kernel_rfl) (by kernel_rfl) (by kernel_rfl) (by intro _ _ _ h; exact h) (Or.inl ⟨by rfl, ?_⟩) (by assumption) ?_
              rotate_left
              · (intro w hSw; (try dsimp only at hSw); go_simp; all_goals with_reducible rfl)
              (try simp only [Act.put, List.setIfInBounds_toArray, List.set_cons_zero, List.set_cons_succ])
              refine wpAnyH_take (i := 10) (v := ?_) (by rw [List.getElem?_toArray]; rfl) (by kernel_rfl) (by kernel_rfl) (by kernel_rfl) (by intro _ _ _ h; exact h) (Or.inl ⟨by rfl, ?_⟩) (by assumption) ?_
              rotate_left
              · (intro w hSw; (try dsimp only at hSw); go_simp; all_goals with_reducible rfl)
              (try simp only [Act.put, List.setIfInBounds_toArray, List.set_cons_zero, List.set_cons_succ])
              refine wpAnyH_take (i := 11) (v := ?_) (by rw [List.getElem?_toArray]; rfl) (by kernel_rfl) (by kernel_rfl) (by kernel_rfl) (by intro _ _ _ h; exact h) (Or.inl ⟨by rfl, ?_⟩) (by assumption) ?_
              rotate_left
              · (intro w hSw; (try dsimp only at hSw); go_simp; all_goals with_reducible rfl)
              (try simp only [Act.put, List.setIfInBounds_toArray, List.set_cons_zero, List.set_cons_succ])
              refine wpAnyH_ready (rs := [12]) (by kernel_rfl) (by simp) ?_
              refine AllReadyH.cons (by rw [List.getElem?_toArray]; rfl) (fun K hK => ?_) AllReadyH.nil
              go_simp
              refine (CC vx).mono ?_; rintro ee vx ⟨rfl, hbl⟩; (replace XB := XB.trans (hbl.mono XB.size)); (clear hbl)
              (try go_wp2_with fail)
              refine hK.out _ _ ?_ (fun hHeld => ?_)
              · first | exact SK.out _ XB | exact SK.out _ (Below.drew (Below.refl _ _))
              clear hK K
              (try simp only [Act.put, List.setIfInBounds_toArray, List.set_cons_zero, List.set_cons_succ])
              refine wpAnyH_take (i := 13) (v := ?_) (by rw [List.getElem?_toArray]; rfl) (by kernel_rfl) (by kernel_rfl) (by kernel_rfl) (by intro _ _ _ h; exact h) (Or.inl ⟨by rfl, ?_⟩) (by assumption) ?_
              rotate_left
              · (intro w hSw; (try dsimp only at hSw); go_simp; all_goals with_reducible rfl)
              (try simp only [Act.put, List.setIfInBounds_toArray, List.set_cons_zero, List.set_cons_succ])
              refine wpAnyH_done (by kernel_rfl) ?_ _
              replace OW := own_belK' OW XB
              replace hjs := Nat.le_trans hjs XB.size
              replace B := B.trans (XB.mono B.size)
              clear SK XB
              have HO9 : Hid (vx.ownsRow w.heap.size 3 1 u5 Lq.length (irow Lq)) := OW
              clear OW
              go_wp2_with fail
              go_roundw
              case rel => exact ⟨m + 1, HM.out, by go_num, HE.out, HO9.out, hjs, B⟩
              case measure => have hlt' := HM.out; simp [intOf]; omega
            · have HE : Hid ((.bool false : Value) = .bool (hdA M t q (m + 1))) := by rw [Hid, hdA_yes hmq hc]
              rw [hc] at CC
              clear hfi hMm hcl HCL HF0 HMq HE0 hm' hmn hc
              generalize hdA M t q m = al at *
              have SK : Hid (∀ w', Below wr.heap.size wr w' → ((fun w' => w'.cell? ⟨b, off + q * 6, none⟩ = some (.int .i64 x0) ∧ w'.cell? ⟨b, off + q * 6 + 1, none⟩ = some (.int .i64 x1) ∧ w'.cell? ⟨b, off + q * 6 + 2, none⟩ = some (.int .i64 x2) ∧ w'.cell? ⟨b, off + q * 6 + 3, none⟩ = some (.int .i64 x3) ∧ w'.cell? ⟨b, off + q * 6 + 4, none⟩ = some (.int .i64 x4) ∧ w'.cell? ⟨b, off + q * 6 + 5, none⟩ = some (.string x5) ∧ w'.cell? ⟨b, off + m * 6, none⟩ = some (.int .i64 y0) ∧ w'.cell? ⟨b, off + m * 6 + 1, none⟩ = some (.int .i64 y1) ∧ w'.cell? ⟨b, off + m * 6 + 2, none⟩ = some (.int .i64 y2) ∧ w'.cell? ⟨b, off + m * 6 + 3, none⟩ = some (.int .i64 y3) ∧ w'.cell? ⟨b, off + m * 6 + 4, none⟩ = some (.int .i64 y4) ∧ w'.cell? ⟨b, off + m * 6 + 5, none⟩ = some (.string y5))) w') := fun w' hw => ⟨(by rw [hw.cell (p := ⟨b, off + q * 6, none⟩) hbb]; exact c0), (by rw [hw.cell (p := ⟨b, off + q * 6 + 1, none⟩) hbb]; exact c1), (by rw [hw.cell (p := ⟨b, off + q * 6 + 2, none⟩) hbb]; exact c2), (by rw [hw.cell (p := ⟨b, off + q * 6 + 3, none⟩) hbb]; exact c3), (by rw [hw.cell (p := ⟨b, off + q * 6 + 4, none⟩) hbb]; exact c4), (by rw [hw.cell (p := ⟨b, off + q * 6 + 5, none⟩) hbb]; exact c5), (by rw [hw.cell (p := ⟨b, off + m * 6, none⟩) hbb]; exact d0), (by rw [hw.cell (p := ⟨b, off + m * 6 + 1, none⟩) hbb]; exact d1), (by rw [hw.cell (p := ⟨b, off + m * 6 + 2, none⟩) hbb]; exact d2), (by rw [hw.cell (p := ⟨b, off + m * 6 + 3, none⟩) hbb]; exact d3), (by rw [hw.cell (p := ⟨b, off + m * 6 + 4, none⟩) hbb]; exact d4), (by rw [hw.cell (p := ⟨b, off + m * 6 + 5, none⟩) hbb]; exact d5)⟩
              clear c0 c1 c2 c3 c4 c5 d0 d1 d2 d3 d4 d5
              go_upto_region 9 with fail
              refine wp_region_held_drew (S := (fun w' => w'.cell? ⟨b, off + q * 6, none⟩ = some (.int .i64 x0) ∧ w'.cell? ⟨b, off + q * 6 + 1, none⟩ = some (.int .i64 x1) ∧ w'.cell? ⟨b, off + q * 6 + 2, none⟩ = some (.int .i64 x2) ∧ w'.cell? ⟨b, off + q * 6 + 3, none⟩ = some (.int .i64 x3) ∧ w'.cell? ⟨b, off + q * 6 + 4, none⟩ = some (.int .i64 x4) ∧ w'.cell? ⟨b, off + q * 6 + 5, none⟩ = some (.string x5) ∧ w'.cell? ⟨b, off + m * 6, none⟩ = some (.int .i64 y0) ∧ w'.cell? ⟨b, off + m * 6 + 1, none⟩ = some (.int .i64 y1) ∧ w'.cell? ⟨b, off + m * 6 + 2, none⟩ = some (.int .i64 y2) ∧ w'.cell? ⟨b, off + m * 6 + 3, none⟩ = some (.int .i64 y3) ∧ w'.cell? ⟨b, off + m * 6 + 4, none⟩ = some (.int .i64 y4) ∧ w'.cell? ⟨b, off + m * 6 + 5, none⟩ = some (.string y5))) (by kernel_rfl) ?_ (fun hHeld => ?_)
              · first | exact SK.out _ XB | exact SK.out _ (Below.drew (Below.refl _ _))
              have XB : Below wr.heap.size wr wr.drew := Below.drew (Below.refl _ _)
              generalize wr.drew = vx at *
              refine wpAnyH_take (i := 0) (v := ?_) (by rw [List.getElem?_toArray]; rfl) (by kernel_rfl) (by kernel_rfl) (by kernel_rfl) (by intro _ _ _ h; exact h) (Or.inl ⟨by rfl, ?_⟩) (by assumption) ?_
              rotate_left
              · (intro w hSw; (try dsimp only at hSw); go_simp; all_goals with_reducible rfl)
              (try simp only [Act.put, List.setIfInBounds_toArray, List.set_cons_zero, List.set_cons_succ])
              refine wpAnyH_take (i := 1) (v := ?_) (by rw [List.getElem?_toArray]; rfl) (by kernel_rfl) (by kernel_rfl) (by kernel_rfl) (by intro _ _ _ h; exact h) (Or.inl ⟨by rfl, ?_⟩) (by assumption) ?_
              rotate_left
              · (intro w hSw; (try dsimp only at hSw); go_simp; all_goals with_reducible rfl)
              (try simp only [Act.put, List.setIfInBounds_toArray, List.set_cons_zero, List.set_cons_succ])
              refine wpAnyH_take (i := 2) (v := ?_) (by rw [List.getElem?_toArray]; rfl) (by kernel_rfl) (by kernel_rfl) (by kernel_rfl) (by intro _ _ _ h; exact h) (Or.inl ⟨by rfl, ?_⟩) (by assumption) ?_
              rotate_left
              · (intro w hSw; (try dsimp only at hSw); go_simp; all_goals with_reducible rfl)
              (try simp only [Act.put, List.setIfInBounds_toArray, List.set_cons_zero, List.set_cons_succ])
              (try simp only [hne])
              refine wpAnyH_take (i := 3) (v := ?_) (by rw [List.getElem?_toArray]; rfl) (by kernel_rfl) (by kernel_rfl) (by kernel_rfl) (by intro _ _ _ h; exact h) (Or.inl ⟨by rfl, ?_⟩) (by assumption) ?_
              rotate_left
              · (intro w hSw; (try dsimp only at hSw); go_simp; all_goals with_reducible rfl)
              (try simp only [Act.put, List.setIfInBounds_toArray, List.set_cons_zero, List.set_cons_succ])
              refine wpAnyH_take (i := 4) (v := ?_) (by rw [List.getElem?_toArray]; rfl) (by kernel_rfl) (by kernel_rfl) (by kernel_rfl) (by intro _ _ _ h; exact h) (Or.inl ⟨by rfl, ?_⟩) (by assumption) ?_
              rotate_left
              · (intro w hSw; (try dsimp only at hSw); go_simp; all_goals with_reducible rfl)
              (try simp only [Act.put, List.setIfInBounds_toArray, List.set_cons_zero, List.set_cons_succ])
              refine wpAnyH_take (i := 5) (v := ?_) (by rw [List.getElem?_toArray]; rfl) (by kernel_rfl) (by kernel_rfl) (by kernel_rfl) (by intro _ _ _ h; exact h) (Or.inl ⟨by rfl, ?_⟩) (by assumption) ?_
              rotate_left
              · (intro w hSw; (try dsimp only at hSw); go_simp; all_goals with_reducible rfl)
              (try simp only [Act.put, List.setIfInBounds_toArray, List.set_cons_zero, List.set_cons_succ])
              refine wpAnyH_take (i := 6) (v := ?_) (by rw [List.getElem?_toArray]; rfl) (by kernel_rfl) (by kernel_rfl) (by kernel_rfl) (by intro _ _ _ h; exact h) (Or.inl ⟨by rfl, ?_⟩) (by assumption) ?_
              rotate_left
              · (intro w hSw; (try dsimp only at hSw); go_simp; all_goals with_reducible rfl)
              (try simp only [Act.put, List.setIfInBounds_toArray, List.set_cons_zero, List.set_cons_succ])
              refine wpAnyH_take (i := 7) (v := ?_) (by rw [List.getElem?_toArray]; rfl) (by kernel_rfl) (by kernel_rfl) (by kernel_rfl) (by intro _ _ _ h; exact h) (Or.inl ⟨by rfl, ?_⟩) (by assumption) ?_
              rotate_left
              · (intro w hSw; (try dsimp only at hSw); go_simp; all_goals with_reducible rfl)
              (try simp only [Act.put, List.setIfInBounds_toArray, List.set_cons_zero, List.set_cons_succ])
              refine wpAnyH_take (i := 8) (v := ?_) (by rw [List.getElem?_toArray]; rfl) (by kernel_rfl) (by kernel_rfl) (by kernel_rfl) (by intro _ _ _ h; exact h) (Or.inl ⟨by rfl, ?_⟩) (by assumption) ?_
              rotate_left
              · (intro w hSw; (try dsimp only at hSw); go_simp; all_goals with_reducible rfl)
              (try simp only [Act.put, List.setIfInBounds_toArray, List.set_cons_zero, List.set_cons_succ])
              refine wpAnyH_take (i := 9) (v := ?_) (by rw [List.getElem?_toArray]; rfl) (by kernel_rfl) (by kernel_rfl) (by kernel_rfl) (by intro _ _ _ h; exact h) (Or.inl ⟨by rfl, ?_⟩) (by assumption) ?_
              rotate_left
              · (intro w hSw; (try dsimp only at hSw); go_simp; all_goals with_reducible rfl)
              (try simp only [Act.put, List.setIfInBounds_toArray, List.set_cons_zero, List.set_cons_succ])
              refine wpAnyH_take (i := 10) (v := ?_) (by rw [List.getElem?_toArray]; rfl) (by kernel_rfl) (by kernel_rfl) (by kernel_rfl) (by intro _ _ _ h; exact h) (Or.inl ⟨by rfl, ?_⟩) (by assumption) ?_
              rotate_left
              · (intro w hSw; (try dsimp only at hSw); go_simp; all_goals with_reducible rfl)
              (try simp only [Act.put, List.setIfInBounds_toArray, List.set_cons_zero, List.set_cons_succ])
              refine wpAnyH_take (i := 11) (v := ?_) (by rw [List.getElem?_toArray]; rfl) (by kernel_rfl) (by kernel_rfl) (by kernel_rfl) (by intro _ _ _ h; exact h) (Or.inl ⟨by rfl, ?_⟩) (by assumption) ?_
              rotate_left
              · (intro w hSw; (try dsimp only at hSw); go_simp; all_goals with_reducible rfl)
              (try simp only [Act.put, List.setIfInBounds_toArray, List.set_cons_zero, List.set_cons_succ])
              refine wpAnyH_ready (rs := [12]) (by kernel_rfl) (by simp) ?_
              refine AllReadyH.cons (by rw [List.getElem?_toArray]; rfl) (fun K hK => ?_) AllReadyH.nil
              go_simp
              refine (CC vx).mono ?_; rintro ee vx ⟨rfl, hbl⟩; (replace XB := XB.trans (hbl.mono XB.size)); (clear hbl)
              (try go_wp2_with fail)
              refine hK.out _ _ ?_ (fun hHeld => ?_)
              · first | exact SK.out _ XB | exact SK.out _ (Below.drew (Below.refl _ _))
              clear hK K
              (try simp only [Act.put, List.setIfInBounds_toArray, List.set_cons_zero, List.set_cons_succ])
              refine wpAnyH_take (i := 13) (v := ?_) (by rw [List.getElem?_toArray]; rfl) (by kernel_rfl) (by kernel_rfl) (by kernel_rfl) (by intro _ _ _ h; exact h) (Or.inl ⟨by rfl, ?_⟩) (by assumption) ?_
              rotate_left
              · (intro w hSw; (try dsimp only at hSw); go_simp; all_goals with_reducible rfl)
              (try simp only [Act.put, List.setIfInBounds_toArray, List.set_cons_zero, List.set_cons_succ])
              refine wpAnyH_done (by kernel_rfl) ?_ _
              replace OW := own_belK' OW XB
              replace hjs := Nat.le_trans hjs XB.size
              replace B := B.trans (XB.mono B.size)
              clear SK XB
              have HO9 : Hid (vx.ownsRow w.heap.size 3 1 u5 Lq.length (irow Lq)) := OW
              clear OW
              go_wp2_with fail
              go_roundw
              case rel => exact ⟨m + 1, HM.out, by go_num, HE.out, HO9.out, hjs, B⟩
              case measure => have hlt' := HM.out; simp [intOf]; omega
        · have hmm' : m = n := by omega
          subst hmm'
          have hmi : ¬ (m : Int) < (m : Int) := by omega
          rw [← HPq]
          cases hp : P q
          · have HE : Hid (L (q + 1) = Lq) := HXq.out hp
            have HO9 : Hid (wr.ownsRow w.heap.size 3 1 u5 Lq.length (irow Lq)) := OW
            clear OW
            go_wp2_with fail
            go_roundw
            case rel => exact ⟨q + 1, HQ.out, by go_num, by rw [HE.out]; exact HO9.out, hjs, B⟩
            case measure => have hlt' := HQ.out; simp [intOf]; omega
          · have HE : Hid (L (q + 1) = Lq ++ [(q : Int)]) := HYq.out hp
            go_upto_region 4 with (at_builtin; refine add_int rfl _ _ rfl w.heap.size Lq _ rfl OW rfl hlen hjs ?_; intro v' w9 O9 hg9 hn9)
            have HO9 : Hid (w9.ownsRow w.heap.size 3 1 v' (Lq ++ [(q : Int)]).length (irow (Lq ++ [(q : Int)]))) := O9
            have B9 := B.trans (grown_belowK OW hg9 hjs)
            have hj9 : w.heap.size ≤ w9.heap.size := Nat.le_trans hjs hg9.size
            clear O9 OW hg9 hn9 B hjs
            go_wp2_with fail
            go_roundw
            case rel => exact ⟨q + 1, HQ.out, by go_num, by rw [HE.out]; exact HO9.out, hj9, B9⟩
            case measure => have hlt' := HQ.out; simp [intOf]; omega
    · have hkn : q = n := by omega
      subst hkn
      have hli : ¬ (q : Int) < (q : Int) := by omega
      go_wp2_with fail
      go_ret
      exact ⟨_, rfl, OW, B⟩
end Go.Proofs.Ytnjoldjefknpbaa
