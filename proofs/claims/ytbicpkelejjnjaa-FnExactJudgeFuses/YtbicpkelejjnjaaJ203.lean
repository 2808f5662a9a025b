/- TellsOf. -/
import Derived.Test.YtbicpkelejjnjaaJ202
import Derived.Deep.RegionHeld3
import Derived.WalkKit
import Derived.WalkSpells
import Derived.WalkLawsBesides
import Derived.Deep.RegionHeld
namespace Go.Proofs.Ytbicpkelejjnjaa
open Go.RowKit
set_option linter.unusedVariables false
theorem SrcC.someT {w : World} {a : Option Addr} {N : Nat} {F : Nat → Value} (h : SrcC w a N F) (hN : 0 < N) : ∃ b off, a = some ⟨b, off, none⟩ ∧ Cs w b off N F := by
  rcases h with h | h
  · omega
  · exact h
def tlS (M : Nat → TdT) (x : Int) : Nat → List TdT
  | 0 => []
  | k + 1 => if (M k).2.1 = x then tlS M x k ++ [M k] else tlS M x k
theorem tlS_yes {M : Nat → TdT} {x : Int} {k : Nat} (h : (M k).2.1 = x) : tlS M x (k + 1) = tlS M x k ++ [M k] := by rw [tlS, if_pos h]
theorem tlS_no {M : Nat → TdT} {x : Int} {k : Nat} (h : (M k).2.1 ≠ x) : tlS M x (k + 1) = tlS M x k := by rw [tlS, if_neg h]
theorem tlS_len (M : Nat → TdT) (x : Int) : ∀ k, (tlS M x k).length ≤ k
  | 0 => Nat.le_refl _
  | k + 1 => by
    have := tlS_len M x k
    by_cases h : (M k).2.1 = x
    · rw [tlS_yes h, List.length_append]; simp; omega
    · rw [tlS_no h]; omega
def tlL (M : Nat → TdT) (n : Nat) (x : Int) : List TdT := if n ≤ 200 then tlS M x n else []
theorem tlL_t {M : Nat → TdT} {n : Nat} {x : Int} (h : n ≤ 200) : tlL M n x = tlS M x n := if_pos h
theorem tlL_f {M : Nat → TdT} {n : Nat} {x : Int} (h : ¬ n ≤ 200) : tlL M n x = [] := if_neg h
theorem TellsOf_len (M : Nat → TdT) (n : Nat) (x : Int) : (tlL M n x).length ≤ 200 := by
  by_cases h : n ≤ 200
  · rw [tlL_t h]; exact Nat.le_trans (tlS_len M x n) h
  · rw [tlL_f h]; simp
set_option maxRecDepth 100000 in
set_option maxHeartbeats 4000000 in
theorem specTellsOf_any (a : Option Addr) (n c : Nat) (M : Nat → TdT) (x : Int) (w : World) (hm : n ≤ maxLen) (hs : SrcC w a (n * 10) (MFTold M)) :
    Calls Try.prog 8 #[.slice a n c, .int .i64 x] w fun e w' => ∃ v, e = .returned v ∧ w'.ownsRow w.heap.size 39 10 v (tlL M n x).length (trow (tlL M n x)) ∧ Below w.heap.size w w' := by
  unfold maxLen at hm
  have HS : Hid (SrcC w a (n * 10) (MFTold M)) := hs
  have B0 := Below.nw w (.cells #[] 39)
  have O0 := made_told w
  clear hs
  by_cases h2 : n ≤ 200
  · rw [tlL_t h2]
    have hd : decide ((n : Int) ≤ 200) = true := by simp; omega
    go_enter Try.func8, Try.ntmps8
    go_upto_region 2 with fail
    generalize hw0 : w.alloc (.cells #[] 39) = w0 at *
    clear hw0
    go_wp2_with fail
    go_loopw [5, 6] (fun v i wr => ∃ k : Nat, k ≤ n ∧ i = .int .i64 k ∧ wr.ownsRow w.heap.size 39 10 v (tlS M x k).length (trow (tlS M x k)) ∧ Below w.heap.size w wr) (fun _ i _ => n - (intOf i).toNat)
    case atStart => exact ⟨0, Nat.zero_le _, rfl, O0, B0⟩
    case round =>
      obtain ⟨k, hk, rfl, OW, hB⟩ := hrel
      by_cases hlt : k < n
      · obtain ⟨b, off, rfl, hf⟩ := HS.out.someT (by omega)
        obtain ⟨x0, x1, x2, x3, x4, x5, x6, x7, x8, x9, hM⟩ := tupTold M k
        have hli : (k : Int) < (n : Int) := by omega
        have hln := tlS_len M x k
        have HY : Hid (x1 = x → tlS M x (k + 1) = tlS M x k ++ [(x0, x1, x2, x3, x4, x5, x6, x7, x8, x9)]) := fun h => by
          have q := tlS_yes (M := M) (k := k) (x := x) (by rw [hM]; exact h)
          rw [hM] at q
          exact q
        have HNn : Hid (x1 ≠ x → tlS M x (k + 1) = tlS M x k) := fun h => tlS_no (by rw [hM]; exact h)
        obtain ⟨c0, c1, c2, c3, c4, c5, c6, c7, c8, c9⟩ := (hf.below hB hf.1).elTold hlt hM
        have hbr : b < wr.heap.size := Nat.lt_of_lt_of_le hf.1 hB.size
        clear hM
        have hBs := hB.size
        generalize tlS M x k = L at *
        by_cases h4 : x1 = x
        · have HT' : Hid (tlS M x (k + 1) = L ++ [(x0, x1, x2, x3, x4, x5, x6, x7, x8, x9)]) := HY.out h4
          have h4' : (x1 == x) = true := by simp [h4]
          clear HY HNn h4
          go_wp2_with (at_builtin; refine add_told rfl _ _ rfl w.heap.size L _ rfl OW rfl (by omega) (by omega) ?_; intro v' w9 O9 hg9 hn9)
          have HO9 : Hid (w9.ownsRow w.heap.size 39 10 v' (L ++ [(x0, x1, x2, x3, x4, x5, x6, x7, x8, x9)]).length (trow (L ++ [(x0, x1, x2, x3, x4, x5, x6, x7, x8, x9)]))) := O9
          have B9 := hB.trans (grown_belowK OW hg9 hBs)
          clear O9 OW hg9 hn9 hB c0 c1 c2 c3 c4 c5 c6 c7 c8 c9
          go_wp2_with fail
          go_roundw
          case rel => exact ⟨k + 1, by omega, by go_num, by rw [HT'.out]; exact HO9.out, B9⟩
          case measure => simp [intOf]; omega
        · have HT' : Hid (tlS M x (k + 1) = L) := HNn.out h4
          have h4' : (x1 == x) = false := by simp [h4]
          clear HY HNn h4
          go_wp2_with fail
          go_roundw
          case rel => exact ⟨k + 1, by omega, by go_num, by rw [HT'.out]; exact OW, hB⟩
          case measure => simp [intOf]; omega
      · have hkn : k = n := by omega
        subst hkn
        have hli : ¬ (k : Int) < (k : Int) := by omega
        go_wp2_with fail
        go_ret
        exact ⟨_, rfl, OW, hB⟩
  · rw [tlL_f h2]
    have hd : decide ((n : Int) ≤ 200) = false := by simp; omega
    have hli : (0 : Int) < (n : Int) := by omega
    go_enter Try.func8, Try.ntmps8
    go_upto_region 2 with fail
    generalize hw0 : w.alloc (.cells #[] 39) = w0 at *
    clear hw0
    go_wp2_with fail
    go_loopw [5, 6] (fun v i wr => i = .int .i64 0 ∧ v = .slice (some ⟨w.heap.size, 0, none⟩) 0 0 ∧ w0 = wr) (fun _ i _ => 0)
    case atStart => exact ⟨rfl, rfl, by first | rfl | trivial⟩
    case round =>
      obtain ⟨rfl, rfl, rfl⟩ := hrel
      go_wp2_with fail
      go_ret
      exact ⟨_, rfl, O0, B0⟩
set_option maxRecDepth 100000 in
set_option maxHeartbeats 8000000 in
theorem implTellsOf_any (a : Option Addr) (n c : Nat) (M : Nat → TdT) (x : Int) (w : World) (hm : n ≤ maxLen) (hs : SrcC w a (n * 10) (MFTold M)) (wx : (Lit.int .i64 x).wf = true) :
    Calls Try.prog 10 #[.slice a n c, .int .i64 x] w fun e w' => ∃ v, e = .returned v ∧ w'.ownsRow w.heap.size 39 10 v (tlL M n x).length (trow (tlL M n x)) ∧ Below w.heap.size w w' := by
  unfold maxLen at hm
  have HS : Hid (SrcC w a (n * 10) (MFTold M)) := hs
  clear hs wx
  by_cases h2 : n ≤ 200
  · rw [tlL_t h2]
    have hd : decide ((n : Int) > 200) = false := by simp; omega
    have hd2 : decide ((200 : Int) < (n : Int)) = false := by simp; omega
    have O0 := nil_told w w.heap.size
    go_enter Try.func10, Try.ntmps10
    go_wp2_with fail
    go_loopw [5, 14] (fun v i wr => ∃ k : Nat, k ≤ n ∧ i = .int .i64 k ∧ wr.ownsRow w.heap.size 39 10 v (tlS M x k).length (trow (tlS M x k)) ∧ Below w.heap.size w wr) (fun _ i _ => n - (intOf i).toNat)
    case atStart => exact ⟨0, Nat.zero_le _, rfl, O0, Below.refl _ _⟩
    case round =>
      obtain ⟨k, hk, rfl, OW, hB⟩ := hrel
      by_cases hlt : k < n
      · obtain ⟨b, off, rfl, hf⟩ := HS.out.someT (by omega)
        obtain ⟨x0, x1, x2, x3, x4, x5, x6, x7, x8, x9, hM⟩ := tupTold M k
        have hli : (k : Int) < (n : Int) := by omega
        have hln := tlS_len M x k
        have HY : Hid (x1 = x → tlS M x (k + 1) = tlS M x k ++ [(x0, x1, x2, x3, x4, x5, x6, x7, x8, x9)]) := fun h => by
          have q := tlS_yes (M := M) (k := k) (x := x) (by rw [hM]; exact h)
          rw [hM] at q
          exact q
        have HNn : Hid (x1 ≠ x → tlS M x (k + 1) = tlS M x k) := fun h => tlS_no (by rw [hM]; exact h)
        obtain ⟨c0, c1, c2, c3, c4, c5, c6, c7, c8, c9⟩ := (hf.below hB hf.1).elTold hlt hM
        have hbr : b < wr.heap.size := Nat.lt_of_lt_of_le hf.1 hB.size
        clear hM
        have hBs := hB.size
        generalize tlS M x k = L at *
        have P1 := Tx10.new wr (.int .i64 x0) (.int .i64 x1) (.int .i64 x2) (.int .i64 x3) (.bool x4) (.bool x5) (.int .i64 x6) (.int .i64 x7) (.int .i64 x8) (.int .i64 x9) 39
        have B1 := hB.alloc hBs (.cells #[.int .i64 x0, .int .i64 x1, .int .i64 x2, .int .i64 x3, .bool x4, .bool x5, .int .i64 x6, .int .i64 x7, .int .i64 x8, .int .i64 x9] 39)
        have O1 := World.ownsRow.alloc OW (.cells #[.int .i64 x0, .int .i64 x1, .int .i64 x2, .int .i64 x3, .bool x4, .bool x5, .int .i64 x6, .int .i64 x7, .int .i64 x8, .int .i64 x9] 39)
        have hBs1 := B1.size
        by_cases h4 : x1 = x
        · have HT' : Hid (tlS M x (k + 1) = L ++ [(x0, x1, x2, x3, x4, x5, x6, x7, x8, x9)]) := HY.out h4
          have h4' : (x1 == x) = true := by simp [h4]
          clear HY HNn h4
          go_upto_region 7 with fail
          generalize wr.alloc (.cells #[.int .i64 x0, .int .i64 x1, .int .i64 x2, .int .i64 x3, .bool x4, .bool x5, .int .i64 x6, .int .i64 x7, .int .i64 x8, .int .i64 x9] 39) = w1 at *
          obtain ⟨d0, d1, d2, d3, d4, d5, d6, d7, d8, d9, d10, f1, f2, f3, f4, f5, f6, f7, f8, f9, f10⟩ := P1
          clear OW hB hBs c0 c1 c2 c3 c4 c5 c6 c7 c8 c9 hbr
          go_wp2_with (at_builtin; refine add_told rfl _ _ rfl w.heap.size L _ rfl O1 rfl (by omega) (by omega) ?_; intro v' w9 O9 hg9 hn9)
          have HO9 : Hid (w9.ownsRow w.heap.size 39 10 v' (L ++ [(x0, x1, x2, x3, x4, x5, x6, x7, x8, x9)]).length (trow (L ++ [(x0, x1, x2, x3, x4, x5, x6, x7, x8, x9)]))) := O9
          have B9 := B1.trans (grown_belowK O1 hg9 hBs1)
          clear O9 O1 hg9 hn9 B1 d0 d1 d2 d3 d4 d5 d6 d7 d8 d9 d10 f1 f2 f3 f4 f5 f6 f7 f8 f9 f10
          go_wp2_with fail
          go_roundw
          case rel => exact ⟨k + 1, by omega, by go_num, by rw [HT'.out]; exact HO9.out, B9⟩
          case measure => simp [intOf]; omega
        · have HT' : Hid (tlS M x (k + 1) = L) := HNn.out h4
          have h4' : (x1 == x) = false := by simp [h4]
          clear HY HNn h4
          go_upto_region 7 with fail
          generalize wr.alloc (.cells #[.int .i64 x0, .int .i64 x1, .int .i64 x2, .int .i64 x3, .bool x4, .bool x5, .int .i64 x6, .int .i64 x7, .int .i64 x8, .int .i64 x9] 39) = w1 at *
          obtain ⟨d0, d1, d2, d3, d4, d5, d6, d7, d8, d9, d10, f1, f2, f3, f4, f5, f6, f7, f8, f9, f10⟩ := P1
          clear OW hB hBs c0 c1 c2 c3 c4 c5 c6 c7 c8 c9 hbr
          go_wp2_with fail
          go_roundw
          case rel => exact ⟨k + 1, by omega, by go_num, by rw [HT'.out]; exact O1, B1⟩
          case measure => simp [intOf]; omega
      · have hkn : k = n := by omega
        subst hkn
        have hli : ¬ (k : Int) < (k : Int) := by omega
        go_wp2_with fail
        go_ret
        exact ⟨_, rfl, OW, hB⟩
  · rw [tlL_f h2]
    have hd : decide ((n : Int) > 200) = true := by simp; omega
    have hd2 : decide ((200 : Int) < (n : Int)) = true := by simp; omega
    go_enter Try.func10, Try.ntmps10
    go_wp2_with fail
    go_ret
    exact ⟨_, rfl, nil_told w w.heap.size, Below.refl _ _⟩
end Go.Proofs.Ytbicpkelejjnjaa
