/- Rows of what was heard: what the laws make of them; an append of one. -/
import Derived.Test.YtiecdkmnjdpgfaaGreatM0
import Derived.Test.YtiecdkmnjdpgfaaGreatM7
namespace Go.Proofs.YtiecdkmnjdpgfaaGreat
open Go.RowKit
set_option linter.unusedVariables false
set_option maxHeartbeats 2000000 in
theorem toHeard_any (x0 x1 : Int) (w : World) :
    Calls Tryz.prog 93 #[.agg #[.int .i64 x0, .int .i64 x1]] w fun e w' => e = .returned (.agg #[.int .i64 x0, .int .i64 x1]) ∧ Below w.heap.size w w' := by
  go_enter Tryz.func93, Tryz.ntmps93
  go_wp2_with fail
  exact bodyPost_ret (v := .agg #[.int .i64 x0, .int .i64 x1]) (by simp (maxDischargeDepth := 6) [results, Tryz.results93, go_sem, *]) rfl ⟨rfl, by repeat (first | exact Below.refl _ _ | refine Below.drew ?_ | refine Below.alloc ?_ (by first | (simp; done) | (simp; omega) | omega) _ | refine Below.setCell ?_ (by first | (simp; done) | (simp; omega) | omega) _ | refine Below.trans ?_ (Below.mono (by assumption) (by first | (simp; done) | (simp; omega) | omega)))⟩
set_option maxHeartbeats 2000000 in
theorem eqHeard_same (x0 x1 : Int) (w : World) :
    Calls Tryz.prog 101 #[.agg #[.int .i64 x0, .int .i64 x1], .agg #[.int .i64 x0, .int .i64 x1]] w fun e w' => e = .returned (.bool true) ∧ Below w.heap.size w w' := by
  go_enter Tryz.func101, Tryz.ntmps101
  go_wp2_with fail
  go_ret
  exact ⟨rfl, by repeat (first | exact Below.refl _ _ | refine Below.drew ?_ | refine Below.alloc ?_ (by first | (simp; done) | (simp; omega) | omega) _ | refine Below.setCell ?_ (by first | (simp; done) | (simp; omega) | omega) _ | refine Below.trans ?_ (Below.mono (by assumption) (by first | (simp; done) | (simp; omega) | omega)))⟩
set_option maxHeartbeats 1000000 in
theorem szHeardS_any (a : Option Addr) (n c : Nat) (L : Int) (w : World) (hm : n ≤ maxLen) (L0 : 0 ≤ L) (L1 : L ≤ 1048576) :
    Calls Tryz.prog 31 #[.slice a n c, .int .i64 L] w fun e w' => e = .returned (.int .i64 (if (n : Int) ≤ L then L - (n : Int) else -1)) ∧ w = w' := by
  unfold maxLen at hm
  by_cases h : (n : Int) ≤ L
  · rw [if_pos h]
    have hd : decide (L - (n : Int) < 0) = false := by simp; omega
    go_enter Tryz.func31, Tryz.ntmps31
    go_wp2_with fail
    go_ret
    exact ⟨rfl, rfl⟩
  · rw [if_neg h]
    have hd : decide (L - (n : Int) < 0) = true := by simp; omega
    go_enter Tryz.func31, Tryz.ntmps31
    go_wp2_with fail
    go_ret
    exact ⟨rfl, rfl⟩
def rowObjHeard (n : Nat) : Obj := .cells (madeCells #[.int .i64 0, .int .i64 0] (n * 2)) 164
theorem infoHeard : (Tryz.prog.info? 164).map (fun i => (i.zero, i.size, i.bytes)) = some (some (.agg #[.int .i64 0, .int .i64 0]), 2, 16) := by kernel_rfl
theorem mk_rowHeard (n : Nat) (h : n ≤ 1048576) (w : World) : (Instr.makeSlice 55 (.int .i64 (n : Int)) (.int .i64 (n : Int))).run Tryz.prog w = .ok (.slice (some ⟨w.heap.size, 0, none⟩) n n) (w.alloc (rowObjHeard n)) := by
  obtain ⟨i, hi, hz⟩ := Option.map_eq_some_iff.1 infoHeard
  simp only [Prod.mk.injEq] at hz
  obtain ⟨h1, h2, h3⟩ := hz
  have hr := run_make (P := Tryz.prog) w 55 164 i _ Tryz.underlying55 hi h1 .i64 .i64 n n (by omega) (Int.le_refl _) (by rw [h3]; omega) (by omega)
  simp only [Int.toNat_natCast, h2] at hr
  exact hr
theorem rowObjHeard_is (w : World) (n : Nat) (F : Nat → Value) : RowF (w.alloc (rowObjHeard n)) w.heap.size 164 (n * 2) 0 F := by
  have h := World.rowIs_alloc w (madeCells #[.int .i64 0, .int .i64 0] (n * 2)) 164 (fun i => (madeCells #[.int .i64 0, .int .i64 0] (n * 2)).getD i undef) (fun i hi => by
    rw [Array.getElem?_eq_getElem hi]; exact congrArg some (by rw [Array.getD_eq_getD_getElem?, Array.getElem?_eq_getElem hi]; rfl))
  rw [size_madeCells] at h
  exact ⟨_, h, fun j hj => absurd hj (Nat.not_lt_zero _)⟩
set_option maxHeartbeats 4000000 in
theorem toHeardS_some (b off n c : Nat) (M : Nat → VT) (w : World) (hn : n ≤ 1048576) (hf : Cs w b off (n * 2) (MFIval M)) :
    Calls Tryz.prog 44 #[.slice (some ⟨b, off, none⟩) n c] w fun e w' => e = .returned (.slice (some ⟨w.heap.size, 0, none⟩) n n) ∧ RowF w' w.heap.size 164 (n * 2) (n * 2) (MFIval M) ∧ Below w.heap.size w w' := by
  have hmk := mk_rowHeard n hn
  go_enter Tryz.func44, Tryz.ntmps44
  go_wp2_with fail
  clear hmk
  go_loopw [4] (fun i wr => ∃ k : Nat, k ≤ n ∧ i = .int .i64 k ∧ RowF wr w.heap.size 164 (n * 2) (k * 2) (MFIval M) ∧ Below w.heap.size w wr) (fun i _ => n - (intOf i).toNat)
  case atStart => exact ⟨0, Nat.zero_le _, rfl, (rowObjHeard_is w n _).eqm (by omega), (Below.refl _ _).alloc (Nat.le_refl _) _⟩
  case round =>
    obtain ⟨k, hk, rfl, hrow, hB⟩ := hrel
    by_cases hlt : k < n
    · obtain ⟨x0, x1, hM⟩ := tupIval M k
      obtain ⟨c0, c1⟩ := (hf.below hB hf.1).elIval hlt hM
      obtain ⟨q0, q1⟩ := MFIval_vals hM
      have hli : (k : Int) < (n : Int) := by omega
      have hlr := hrow.lt
      clear hM
      go_wp2_with fail
      refine (toHeard_any x0 x1 _).mono ?_
      rintro e w' ⟨rfl, hb⟩
      have row := RowF.below hb hlr hrow
      have hB2 := hB.trans (hb.mono hB.size)
      clear c0 c1 hrow hB hb
      have hlr2 := row.lt
      obtain ⟨⟨v0, e0⟩, f0⟩ := row.facts (k * 2) (by omega)
      obtain ⟨⟨v1, e1⟩, f1⟩ := row.facts (k * 2 + 1) (by omega)
      go_wp2_with fail
      go_roundw
      case rel => exact ⟨k + 1, by omega, by go_num, ((row.put (k * 2 + 1) (by omega) q0).put ((k + 1) * 2) (by omega) q1), ((hB2.setCell (Nat.le_refl _) _).setCell (Nat.le_refl _) _)⟩
      case measure => simp [intOf]; omega
    · have hkn : k = n := by omega
      subst hkn
      have hli : ¬ (k : Int) < (k : Int) := by omega
      go_wp2_with fail
      go_ret
      exact ⟨rfl, hrow, hB⟩
set_option maxHeartbeats 1000000 in
theorem toHeardS_empty (a : Option Addr) (c : Nat) (F : Nat → Value) (w : World) :
    Calls Tryz.prog 44 #[.slice a 0 c] w fun e w' => e = .returned (.slice (some ⟨w.heap.size, 0, none⟩) 0 0) ∧ RowF w' w.heap.size 164 (0 * 2) (0 * 2) F ∧ Below w.heap.size w w' := by
  have hmk := mk_rowHeard 0 (by omega)
  simp only [Int.ofNat_zero] at hmk
  go_enter Tryz.func44, Tryz.ntmps44
  go_wp2_with fail
  clear hmk
  go_loopw [4] (fun i wr => i = .int .i64 0 ∧ RowF wr w.heap.size 164 (0 * 2) 0 F ∧ Below w.heap.size w wr) (fun i _ => 0)
  case atStart => exact ⟨rfl, rowObjHeard_is w 0 F, (Below.refl _ _).alloc (Nat.le_refl _) _⟩
  case round =>
    obtain ⟨rfl, hrow, hB⟩ := hrel
    go_wp2_with fail
    go_ret
    exact ⟨rfl, hrow.eqm (by omega), hB⟩
theorem toHeardS_any (a : Option Addr) (n c : Nat) (M : Nat → VT) (w : World) (hn : n ≤ 1048576) (h : SrcC w a (n * 2) (MFIval M)) :
    Calls Tryz.prog 44 #[.slice a n c] w fun e w' => e = .returned (.slice (some ⟨w.heap.size, 0, none⟩) n n) ∧ RowF w' w.heap.size 164 (n * 2) (n * 2) (MFIval M) ∧ Below w.heap.size w w' := by
  rcases h with h0 | ⟨b, off, rfl, h2⟩
  · have hn0 : n = 0 := by omega
    subst hn0
    exact toHeardS_empty a c _ w
  · exact toHeardS_some b off n c M w hn h2
set_option maxHeartbeats 8000000 in
theorem eqHeardS_some (b off b' off' n c c' : Nat) (M : Nat → VT) (w : World) (hn : n ≤ maxLen) (hf : Cs w b off (n * 2) (MFIval M)) (hg : Cs w b' off' (n * 2) (MFIval M)) :
    Calls Tryz.prog 54 #[.slice (some ⟨b, off, none⟩) n c, .slice (some ⟨b', off', none⟩) n c'] w fun e w' => e = .returned (.bool true) ∧ Below w.heap.size w w' := by
  unfold maxLen at hn
  go_enter Tryz.func54, Tryz.ntmps54
  go_wp2_with fail
  go_loopw [5] (fun i wr => ∃ k : Nat, k ≤ n ∧ i = .int .i64 k ∧ Below w.heap.size w wr) (fun i _ => n - (intOf i).toNat)
  case atStart => exact ⟨0, Nat.zero_le _, rfl, Below.refl _ _⟩
  case round =>
    obtain ⟨k, hk, rfl, hB⟩ := hrel
    by_cases hlt : k < n
    · obtain ⟨x0, x1, hM⟩ := tupIval M k
      obtain ⟨c0, c1⟩ := (hf.below hB hf.1).elIval hlt hM
      obtain ⟨d0, d1⟩ := (hg.below hB hg.1).elIval hlt hM
      have hb1 : b < wr.drew.heap.size := Nat.lt_of_lt_of_le hf.1 hB.size
      have hb2 : b' < wr.drew.heap.size := Nat.lt_of_lt_of_le hg.1 hB.size
      have hsz : w.heap.size ≤ wr.drew.heap.size := hB.size
      have hli : (k : Int) < (n : Int) := by omega
      clear hM
      go_wp2_with fail
      refine wp_region_held_drew (S := (fun w' => w'.cell? ⟨b, off + k * 2, none⟩ = some (.int .i64 x0) ∧ w'.cell? ⟨b, off + k * 2 + 1, none⟩ = some (.int .i64 x1) ∧ w'.cell? ⟨b', off' + k * 2, none⟩ = some (.int .i64 x0) ∧ w'.cell? ⟨b', off' + k * 2 + 1, none⟩ = some (.int .i64 x1))) (by kernel_rfl) ?_ (fun hHeld => ?_)
      · first | exact ⟨c0, c1, d0, d1⟩ | (simp (maxDischargeDepth := 6) [go_sem, *]; done)
      refine zTk 0 ?_
      (try simp only [Act.put, zSb, zS0, zS1])
      refine zTk 1 ?_
      (try simp only [Act.put, zSb, zS0, zS1])
      refine zTk 2 ?_
      (try simp only [Act.put, zSb, zS0, zS1])
      refine zTk 3 ?_
      (try simp only [Act.put, zSb, zS0, zS1])
      refine zTk 4 ?_
      (try simp only [Act.put, zSb, zS0, zS1])
      refine zTk 5 ?_
      (try simp only [Act.put, zSb, zS0, zS1])
      refine zTk 6 ?_
      (try simp only [Act.put, zSb, zS0, zS1])
      refine zTk 7 ?_
      (try simp only [Act.put, zSb, zS0, zS1])
      refine wpAnyH_ready (rs := [8]) (by kernel_rfl) (by simp) ?_
      refine AllReadyH.cons (by rw [List.getElem?_toArray]; rfl) (fun K hK => ?_) AllReadyH.nil
      go_simp
      refine (eqHeard_same _ _ _).mono ?_; rintro e w' ⟨rfl, hb⟩; (replace c0 := (hb.cell (p := ⟨b, off + k * 2, none⟩) hb1).trans c0); (replace c1 := (hb.cell (p := ⟨b, off + k * 2 + 1, none⟩) hb1).trans c1); (replace d0 := (hb.cell (p := ⟨b', off' + k * 2, none⟩) hb2).trans d0); (replace d1 := (hb.cell (p := ⟨b', off' + k * 2 + 1, none⟩) hb2).trans d1)
      (try go_wp2_with fail)
      refine hK.out _ _ ?_ (fun hHeld => ?_)
      · first | exact ⟨c0, c1, d0, d1⟩ | (simp (maxDischargeDepth := 6) [go_sem, *]; done)
      clear hK K
      (try simp only [Act.put, zSb, zS0, zS1])
      refine zTk 9 ?_
      (try simp only [Act.put, zSb, zS0, zS1])
      refine wpAnyH_done (by kernel_rfl) ?_ _
      go_wp2_with fail
      go_roundw
      case rel => exact ⟨k + 1, by omega, by go_num, (Below.drew hB).trans (hb.mono hsz)⟩
      case measure => simp [intOf]; omega
    · go_wp2_with fail
      go_ret
      exact ⟨rfl, hB⟩
set_option maxHeartbeats 400000 in
theorem eqHeardS_zero (a a' : Option Addr) (c c' : Nat) (w : World) :
    Calls Tryz.prog 54 #[.slice a 0 c, .slice a' 0 c'] w fun e w' => e = .returned (.bool true) ∧ Below w.heap.size w w' := by
  go_enter Tryz.func54, Tryz.ntmps54
  go_wp2_with fail
  go_loopw [5] (fun i wr => i = .int .i64 0 ∧ w = wr) (fun i _ => 0)
  case atStart => exact ⟨rfl, rfl⟩
  case round =>
    obtain ⟨rfl, rfl⟩ := hrel
    go_wp2_with fail
    go_ret
    exact ⟨rfl, Below.refl _ _⟩
theorem eqHeardS_src (a a' : Option Addr) (n c c' : Nat) (M : Nat → VT) (w : World) (hn : n ≤ maxLen) (h : SrcC w a (n * 2) (MFIval M)) (h' : SrcC w a' (n * 2) (MFIval M)) :
    Calls Tryz.prog 54 #[.slice a n c, .slice a' n c'] w fun e w' => e = .returned (.bool true) ∧ Below w.heap.size w w' := by
  by_cases h0 : n = 0
  · subst h0; exact eqHeardS_zero a a' c c' w
  · rcases h with h | ⟨b, off, rfl, hp⟩
    · omega
    · rcases h' with h | ⟨b', off', rfl, hp'⟩
      · omega
      · exact eqHeardS_some b off b' off' n c c' M w hn hp hp'
set_option maxHeartbeats 8000000 in
theorem markHeardS_row (b N n c : Nat) (q0 : Int) (w : World) (hn : n ≤ 1048576) (hq : 0 < q0) (hq1 : q0 ≤ 1073741824) (hN : n * 2 ≤ N) (h : RowF w b 164 N 0 (mkIval q0)) :
    Calls Tryz.prog 61 #[.slice (some ⟨b, 0, none⟩) n c, .int .i64 q0] w fun e w' => e = .returned (.int .i64 (q0 + (n : Int) * 2)) ∧ RowF w' b 164 N (n * 2) (mkIval q0) ∧ But b w w' := by
  go_enter Tryz.func61, Tryz.ntmps61
  go_wp2_with fail
  go_loopw [1, 5] (fun q i wr => ∃ (k : Nat) (Q : Int), k ≤ n ∧ i = .int .i64 k ∧ q = .int .i64 Q ∧ Q = q0 + (k : Int) * 2 ∧ RowF wr b 164 N (k * 2) (mkIval q0) ∧ But b w wr) (fun _ i _ => n - (intOf i).toNat)
  case atStart => exact ⟨0, q0, Nat.zero_le _, rfl, rfl, by omega, h.eqm (by omega), But.refl _ _⟩
  case round =>
    obtain ⟨k, Q, hk, rfl, rfl, hQ, row, hB⟩ := hrel
    clear h
    have HQ : Hid (Q = q0 + (k : Int) * 2) := hQ
    by_cases hlt : k < n
    · have hli : (k : Int) < (n : Int) := by omega
      have Q0 : 0 < Q := by omega
      have Q1 : Q ≤ 1073741824 + 1048576 * 2 := by omega
      clear hQ
      have hlr := row.lt
      obtain ⟨⟨v0, e0⟩, f0⟩ := row.facts (k * 2) (by omega)
      obtain ⟨⟨v1, e1⟩, f1⟩ := row.facts (k * 2 + 1) (by omega)
      go_wp2_with fail
      go_roundw
      case rel => exact ⟨k + 1, _, by omega, by go_num, rfl, by have := HQ.out; omega, (RowF.put (RowF.put row (k * 2 + 1) (by omega) (mkIval_i (k := k) (j := 0) (by have := HQ.out; omega))) ((k + 1) * 2) (by omega) (mkIval_i (k := k) (j := 1) (by have := HQ.out; omega))), ((hB.setCell _ _).setCell _ _)⟩
      case measure => simp [intOf]; omega
    · have hkn : k = n := by omega
      subst hkn
      have hli : ¬ (k : Int) < (k : Int) := by omega
      subst hQ
      go_wp2_with fail
      go_ret
      exact ⟨rfl, row, hB⟩
set_option maxHeartbeats 400000 in
theorem markHeardS_zero (a : Option Addr) (c : Nat) (q0 : Int) (w : World) :
    Calls Tryz.prog 61 #[.slice a 0 c, .int .i64 q0] w fun e w' => e = .returned (.int .i64 q0) ∧ w = w' := by
  go_enter Tryz.func61, Tryz.ntmps61
  go_wp2_with fail
  go_loopw [1, 5] (fun q i wr => i = .int .i64 0 ∧ q = .int .i64 q0 ∧ w = wr) (fun _ i _ => 0)
  case atStart => exact ⟨rfl, rfl, by first | rfl | trivial⟩
  case round =>
    obtain ⟨rfl, rfl, rfl⟩ := hrel
    go_wp2_with fail
    go_ret
    exact ⟨rfl, rfl⟩
set_option maxRecDepth 100000 in
set_option maxHeartbeats 8000000 in
theorem heldHeardS_some (b off n c : Nat) (q0 : Int) (w : World) (hn : n ≤ 1048576) (hq : 0 < q0) (hq1 : q0 ≤ 1073741824) (h : Cs w b off (n * 2) (mkIval q0)) :
    Calls Tryz.prog 64 #[.slice (some ⟨b, off, none⟩) n c, .int .i64 q0] w fun e w' => e = .returned (.int .i64 (q0 + (n : Int) * 2)) ∧ w = w' := by
  have HP : Hid (Cs w b off (n * 2) (mkIval q0)) := h
  clear h
  go_enter Tryz.func64, Tryz.ntmps64
  go_wp2_with fail
  go_loopw [1, 5] (fun q i wr => ∃ (k : Nat) (Q : Int), k ≤ n ∧ i = .int .i64 k ∧ q = .int .i64 Q ∧ Q = q0 + (k : Int) * 2 ∧ w = wr) (fun _ i _ => n - (intOf i).toNat)
  case atStart => exact ⟨0, q0, Nat.zero_le _, rfl, rfl, by omega, by first | rfl | trivial⟩
  case round =>
    obtain ⟨k, Q, hk, rfl, rfl, hQ, rfl⟩ := hrel
    have HQ : Hid (Q = q0 + (k : Int) * 2) := hQ
    by_cases hlt : k < n
    · have hli : (k : Int) < (n : Int) := by omega
      have Q0 : 0 < Q := by omega
      have Q1 : Q ≤ 1073741824 + 1048576 * 2 := by omega
      have hP := HP.out
      clear hQ
      have c0 : w.cell? ⟨b, off + k * 2, none⟩ = some (.int .i64 (Q)) := by have q := hP.2 (k * 2) (by omega); rw [show mkIval q0 (k * 2) = .int .i64 (Q) from mkIval_i (k := k) (j := 0) (x := Q) (by have := HQ.out; omega)] at q; exact q
      have c1 : w.cell? ⟨b, off + k * 2 + 1, none⟩ = some (.int .i64 (Q + 1)) := by have q := hP.2 (k * 2 + 1) (by omega); rw [show mkIval q0 (k * 2 + 1) = .int .i64 (Q + 1) from mkIval_i (k := k) (j := 1) (x := Q + 1) (by have := HQ.out; omega)] at q; exact q
      have hbl := hP.1
      clear hP
      go_wp2_with fail
      go_roundw
      case rel => exact ⟨k + 1, _, by omega, by go_num, rfl, by have := HQ.out; omega, by first | rfl | trivial⟩
      case measure => simp [intOf]; omega
    · have hkn : k = n := by omega
      subst hkn
      have hli : ¬ (k : Int) < (k : Int) := by omega
      subst hQ
      go_wp2_with fail
      go_ret
      exact ⟨rfl, rfl⟩
set_option maxHeartbeats 400000 in
theorem heldHeardS_zero (a : Option Addr) (c : Nat) (q0 : Int) (w : World) :
    Calls Tryz.prog 64 #[.slice a 0 c, .int .i64 q0] w fun e w' => e = .returned (.int .i64 q0) ∧ w = w' := by
  go_enter Tryz.func64, Tryz.ntmps64
  go_wp2_with fail
  go_loopw [1, 5] (fun q i wr => i = .int .i64 0 ∧ q = .int .i64 q0 ∧ w = wr) (fun _ i _ => 0)
  case atStart => exact ⟨rfl, rfl, by first | rfl | trivial⟩
  case round =>
    obtain ⟨rfl, rfl, rfl⟩ := hrel
    go_wp2_with fail
    go_ret
    exact ⟨rfl, rfl⟩
theorem heldHeardS_any (a : Option Addr) (n c : Nat) (q0 : Int) (w : World) (hn : n ≤ 1048576) (hq : 0 < q0) (hq1 : q0 ≤ 1073741824) (h : SrcC w a (n * 2) (mkIval q0)) :
    Calls Tryz.prog 64 #[.slice a n c, .int .i64 q0] w fun e w' => e = .returned (.int .i64 (q0 + (n : Int) * 2)) ∧ w = w' := by
  rcases h with h0 | ⟨b, off, rfl, hp⟩
  · have hn0 : n = 0 := by omega
    subst hn0
    exact (heldHeardS_zero a c q0 w).mono fun e w' ⟨h1, h2⟩ => ⟨by rw [h1]; simp, h2⟩
  · exact heldHeardS_some b off n c q0 w hn hq hq1 hp
theorem markHeardS_own (a : Option Addr) (n c base : Nat) (q0 : Int) (xs : List Value) (w : World) (hn : n ≤ 1048576) (hq : 0 < q0) (hq1 : q0 ≤ 1073741824) (h : w.ownsRow base 164 2 (.slice a n c) n xs) :
    Calls Tryz.prog 61 #[.slice a n c, .int .i64 q0] w fun e w' => e = .returned (.int .i64 (q0 + (n : Int) * 2)) ∧ SrcC w' a (n * 2) (mkIval q0) ∧ w.grownBy w' (Value.slice a n c).ownBlock := by
  rcases h.2 with ⟨he, h0⟩ | ⟨g, cap, cur, he, _⟩
  · simp at he
    obtain ⟨rfl, rfl, rfl⟩ := he
    exact (markHeardS_zero none 0 q0 w).mono fun e w' ⟨h1, h2⟩ => ⟨by rw [h1]; simp, .inl (by omega), h2 ▸ bel_grown (Below.refl _ _)⟩
  · simp at he
    obtain ⟨rfl, rfl⟩ := he
    obtain ⟨h1, h2, _, h3⟩ := ownF_row (mkIval q0) h
    exact (markHeardS_row g (c * 2) n c q0 w hn hq hq1 (Nat.mul_le_mul_right _ h2) h3).mono fun e w' ⟨r1, r2, r3⟩ => ⟨r1, .inr ⟨g, 0, rfl, r2.cs (Nat.mul_le_mul_right _ h2)⟩, r3.grK⟩
theorem info_heard : (Tryz.prog.info? 164).map (fun i => (i.zero, i.size, i.bytes)) = some (some (.agg #[.int .i64 0, .int .i64 0]), 2, 16) := by kernel_rfl
theorem made_heard (w : World) : (w.alloc (.cells #[] 164)).ownsRow w.heap.size 164 2 (.slice (some ⟨w.heap.size, 0, none⟩) 0 0) ([] : List VT).length (vrow []) := World.ownsRow_made w #[] 0 (Nat.le_refl _) (by simp [maxLen]) (by simp)
end Go.Proofs.YtiecdkmnjdpgfaaGreat
