/- putHeard in the program. -/
import Derived.Test.YtdahabbdhjgpdaaS175
import Derived.Deep.RegionHeld3
import Derived.Deep.DeepCutAuto
import Derived.WalkKit
import Derived.WalkSpells
import Derived.WalkLawsBesides
import Derived.Deep.RegionHeld
namespace Go.Proofs.Ytdahabbdhjgpdaa
open Go.RowKit
set_option linter.unusedVariables false
theorem own_el2 {w : World} {base g n cap : Nat} {L : List VT} (h : w.ownsRow base 54 2 (.slice (some ⟨g, 0, none⟩) n cap) n (vrow L)) {i : Nat} (hi : i < n) :
    g < w.heap.size ∧ w.cell? ⟨g, i * 2, none⟩ = some (.int .i64 (gV L i).1) ∧ w.cell? ⟨g, i * 2 + 1, none⟩ = some (.int .i64 (gV L i).2) ∧ w.frozen? ⟨g, i * 2, none⟩ = false ∧ w.frozen? ⟨g, i * 2 + 1, none⟩ = false := by
  have hn : L.length = n := by have := h.1; rw [vrow_len] at this; omega
  rcases h.2 with ⟨q, _⟩ | ⟨g', cap', cur, he, hb, hg, hnc, hc, hs, ht⟩
  · simp at q
  simp at he
  obtain ⟨rfl, rfl⟩ := he
  have hx : ∀ j, j < n * 2 → w.cell? ⟨g, j, none⟩ = some (MFIval (gV L) j) := fun j hj => by
    have e : (vrow L)[j]? = some (MFIval (gV L) j) := by unfold vrow; rw [List.getElem?_map, List.getElem?_range (by omega)]; rfl
    rw [← ht, List.getElem?_take, if_pos hj] at e
    simp only [World.cell?, hg]
    simpa using e
  refine ⟨(Array.getElem?_eq_some_iff.1 hg).1, ?_, ?_, by simp [World.frozen?, hg], by simp [World.frozen?, hg]⟩
  · rw [hx _ (by omega)]; unfold MFIval; rw [show i * 2 % 2 = 0 by omega, show i * 2 / 2 = i by omega]; rfl
  · rw [hx _ (by omega)]; unfold MFIval; rw [show (i * 2 + 1) % 2 = 1 by omega, show (i * 2 + 1) / 2 = i by omega]; rfl
set_option maxRecDepth 100000 in
set_option maxHeartbeats 8000000 in
theorem putHeard_any (a : Option Addr) (n c : Nat) (M : Nat → VT) (sl ct : Int) (w : World) (hH : hrA M n = true) (hn : n ≤ 16) (ha : (a = none ∧ n = 0 ∧ c = 0) ∨ ∃ b off, a = some ⟨b, off, none⟩ ∧ (n = 0 ∨ Cs w b off (n * 2) (MFIval M))) :
    Calls Try.prog 33 #[.slice a n c, .agg #[.int .i64 sl, .int .i64 ct]] w fun e w' => ∃ v, e = .returned v ∧ w'.ownsRow w.heap.size 54 2 v (hpL M n sl ct).length (vrow (hpL M n sl ct)) ∧ Below w.heap.size w w' := by
  have B := Below.nw w (.cells #[.int .i64 sl, .int .i64 ct] 54)
  have D := Bx2.new w (.int .i64 sl) (.int .i64 ct) 54
  have hj : w.heap.size + 1 ≤ (w.alloc (.cells #[.int .i64 sl, .int .i64 ct] 54)).heap.size := by simp
  have HH : Hid (hrA M n = true) := hH
  have C1 := clone16_any a n c M (w.alloc (.cells #[.int .i64 sl, .int .i64 ct] 54)) (by omega) (by
    rcases ha with q | ⟨b, off, e, hc⟩
    · exact .inl q
    · exact .inr ⟨b, off, e, hc.imp id fun h => h.below B h.1⟩)
  clear ha hH
  go_enter Try.func33, Try.ntmps33
  go_wp2_with fail
  refine C1.mono ?_
  clear C1
  rintro e v1 ⟨v', rfl, OW, hb⟩
  replace B := B.trans (hb.mono B.size)
  replace D := D.below hb
  replace hj := Nat.le_trans hj hb.size
  rw [← lsV_row] at OW
  replace OW : v1.ownsRow (w.heap.size + 1) 54 2 v' n (vrow (lsV M n)) := own_baseI16 OW (by simp)
  clear hb
  rcases id OW.2 with ⟨rfl, rfl⟩ | ⟨g, cap, cur, rfl, hbg, -, hnc, hcm, -, -⟩
  · have HV : Hid (hpL M 0 sl ct = [] ++ [(sl, ct)]) := hp_end fun j hj => by omega
    replace OW : v1.ownsRow (w.heap.size + 1) 54 2 (.slice none 0 0) ([] : List VT).length (vrow []) := nil_heard _ _
    go_wp2_with fail
    go_loopw [12] (fun i wr => i = .int .i64 0 ∧ wr = v1) (fun i _ => 0)
    case atStart => exact ⟨rfl, rfl⟩
    case round =>
      obtain ⟨rfl, rfl⟩ := hrel
      obtain ⟨d0, d1, d2, d3, d4⟩ := id D
      have hli : ¬ (0 : Int) < 0 := by omega
      have BJ := Below.refl (w.heap.size + 1) wr
      go_wp2_with (at_builtin; refine add_heard rfl _ _ rfl (w.heap.size + 1) [] _ rfl OW rfl (by simp) hj ?_; intro v2 w9 O9 hg9 hn9; (have BJ9 := BJ.trans (grown_belowK OW hg9 hj)))
      go_ret
      exact ⟨_, rfl, by rw [HV.out]; exact own_baseI16 O9 (Nat.le_succ _), B.trans (BJ9.mono (Nat.le_succ _))⟩
  have hbg' : w.heap.size ≤ g := by omega
  unfold maxLen at hcm
  go_wp2_with fail
  go_loopw [12] (fun i wr => ∃ (k : Nat), k ≤ n ∧ i = .int .i64 k ∧ (∀ j, j < k → (M j).1 < sl) ∧ Below w.heap.size w wr ∧ w.heap.size + 1 ≤ wr.heap.size ∧ Bx2 wr w.heap.size (.int .i64 sl) (.int .i64 ct) ∧ wr.ownsRow (w.heap.size + 1) 54 2 (.slice (some ⟨g, 0, none⟩) n cap) n (vrow (lsV M n))) (fun i _ => n - (intOf i).toNat)
  case atStart => exact ⟨0, Nat.zero_le _, rfl, fun j h => absurd h (Nat.not_lt_zero j), B, hj, D, OW⟩
  case round =>
    clear B D OW hj
    obtain ⟨k, hk, rfl, hlow, B, hj, D, OW⟩ := hrel
    have HL : Hid (∀ j, j < k → (M j).1 < sl) := hlow
    clear hlow
    by_cases hlt : k < n
    · obtain ⟨x0, x1, hM⟩ := tupIval M k
      have HM : Hid (M k = (x0, x1)) := hM
      have HLT : Hid (k < n) := hlt
      have hli : (k : Int) < (n : Int) := by omega
      obtain ⟨g0, c0, c1, f0, f1⟩ := own_el2 OW hlt
      rw [lsV_at hlt, hM] at c0 c1
      clear hM
      have A1 := Below.nw wr (.cells #[.int .i64 x0, .int .i64 x1] 54)
      have Z := Bx2.new wr (.int .i64 x0) (.int .i64 x1) 54
      replace OW := own_belK' OW A1
      replace D := D.below A1
      replace B := B.trans (A1.mono B.size)
      have hjo : w.heap.size + 1 ≤ wr.heap.size := hj
      replace hj := Nat.le_trans hj A1.size
      clear A1
      go_upto_region 5 with fail
      clear c0 c1 f0 f1 g0
      generalize wr.alloc (.cells #[.int .i64 x0, .int .i64 x1] 54) = v2 at *
      generalize wr.heap.size = jo at *
      obtain ⟨g0, c0, c1, f0, f1⟩ := own_el2 OW hlt
      by_cases q : x0 = sl
      · have qe : (x0 == sl) = true := by rw [q]; simp
        have HV : Hid (hpL M n sl ct = (lsV M n).set k (sl, ct)) := hp_eq hlt HL.out (by rw [HM.out]; exact q) fun j h1 h2 => by
          have := hr_asc HH.out h1 h2
          rw [HM.out] at this; omega
        have O2 := own_set2 OW hlt sl ct
        clear q
        obtain ⟨d0, d1, d2, d3, d4⟩ := id D
        obtain ⟨z0, z1, z2, z3, z4⟩ := id Z
        go_wp2_with fail
        go_ret
        exact ⟨_, rfl, by rw [HV.out, List.length_set, lsV_len]; exact own_baseI16 O2 (Nat.le_succ _), (B.setCell hbg' _).setCell hbg' _⟩
      have qe : (x0 == sl) = false := by rw [beq_eq_false_iff_ne]; exact q
      by_cases q2 : sl < x0
      · have HV : Hid (hpL M n sl ct = (lsV M n).take k ++ (sl, ct) :: (lsV M n).drop k) := hp_gt hlt HL.out (by rw [HM.out]; exact q2) fun j h1 h2 => by
          have := hr_asc HH.out h1 h2
          rw [HM.out] at this
          have q2' : sl < x0 := q2
          omega
        have A2 := Below.nw v2 (.cells #[.int .i64 sl, .int .i64 ct] 54)
        have O2 := own_belK' OW A2
        have hbs : w.heap.size + 1 ≤ (v2.alloc (.cells #[.int .i64 sl, .int .i64 ct] 54)).heap.size := Nat.le_trans hj A2.size
        have CI := insert_any (w.heap.size + 1) _ n _ k sl ct v2.heap.size (v2.alloc (.cells #[.int .i64 sl, .int .i64 ct] 54)) O2 hlt hn (heap_alloc_new v2 _) (by intro e; simp [Value.ownBlock] at e; omega) (vrow_oneC _) hbs
        have HG : Hid (∀ w', (v2.alloc (.cells #[.int .i64 sl, .int .i64 ct] 54)).grownBy w' (Value.slice (some ⟨g, 0, none⟩) n cap).ownBlock → Below w.heap.size w w') := fun w' hg => (B.trans (A2.mono B.size)).trans ((grown_belowK O2 hg hbs).mono (Nat.le_succ _))
        clear q A2 O2 hbs
        obtain ⟨d0, d1, d2, d3, d4⟩ := id D
        obtain ⟨z0, z1, z2, z3, z4⟩ := id Z
        go_wp2_with fail
        refine CI.mono ?_
        clear CI
        rintro e v3 ⟨v4, rfl, O3, hg3⟩
        have HO3 : Hid (v3.ownsRow (w.heap.size + 1) 54 2 v4 (n + 1) (vrow ((lsV M n).take k ++ (sl, ct) :: (lsV M n).drop k))) := by
          rw [vrow_put (lsV M n) k (by rw [lsV_len]; omega)] at O3
          exact O3
        have B3 := HG.out _ hg3
        clear O3 hg3 HG
        go_wp2_with fail
        go_ret
        exact ⟨_, rfl, by rw [HV.out]; have e : ((lsV M n).take k ++ (sl, ct) :: (lsV M n).drop k).length = n + 1 := by { simp [lsV_len]; omega }; rw [e]; exact own_baseI16 HO3.out (Nat.le_succ _), B3⟩
      · have HL2 : Hid (∀ j, j < k + 1 → (M j).1 < sl) := fun j hj => by
          by_cases e : j = k
          · subst e; rw [HM.out]; show x0 < sl; omega
          · exact HL.out j (by omega)
        clear HM HL HH q
        obtain ⟨d0, d1, d2, d3, d4⟩ := id D
        obtain ⟨z0, z1, z2, z3, z4⟩ := id Z
        go_wp2_with fail
        go_roundw
        case rel => exact ⟨k + 1, HLT.out, by go_num, HL2.out, B, hj, D, OW⟩
        case measure => have hlt' := HLT.out; simp [intOf]; omega
    · obtain rfl : k = n := by omega
      have hli : ¬ (k : Int) < (k : Int) := by omega
      have HV : Hid (hpL M k sl ct = lsV M k ++ [(sl, ct)]) := hp_end HL.out
      have hlen' : (lsV M k).length ≤ 4096 := by rw [lsV_len]; omega
      have BJ := Below.refl (w.heap.size + 1) wr
      replace OW : wr.ownsRow (w.heap.size + 1) 54 2 (.slice (some ⟨g, 0, none⟩) k cap) (lsV M k).length (vrow (lsV M k)) := by rw [lsV_len]; exact OW
      clear HL HH
      obtain ⟨d0, d1, d2, d3, d4⟩ := id D
      go_wp2_with (at_builtin; refine add_heard rfl _ _ rfl (w.heap.size + 1) (lsV M k) _ rfl OW rfl hlen' hj ?_; intro v2 w9 O9 hg9 hn9; (have BJ9 := BJ.trans (grown_belowK OW hg9 hj)))
      go_ret
      exact ⟨_, rfl, by rw [HV.out]; exact own_baseI16 O9 (Nat.le_succ _), B.trans (BJ9.mono (Nat.le_succ _))⟩
end Go.Proofs.Ytdahabbdhjgpdaa
