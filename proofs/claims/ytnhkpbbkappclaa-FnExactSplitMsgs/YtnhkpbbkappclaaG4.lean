/- What the laws make of bytes, and whether two rows of them are the same. -/
import Derived.Test.YtnhkpbbkappclaaG2
import Derived.WalkKit
import Derived.WalkSpells
import Derived.WalkLawsBesides
import Derived.Deep.RegionHeld
namespace Go.Proofs.Ytnhkpbbkappclaa
open Go.RowKit
set_option linter.unusedVariables false
def rowObjB (n : Nat) : Obj := .cells (madeCells #[.int .u8 0] n) 5
theorem mk_rowB (n : Nat) (h : n ≤ 1048576) (w : World) : (Instr.makeSlice 27 (.int .i64 (n : Int)) (.int .i64 (n : Int))).run Try.prog w = .ok (.slice (some ⟨w.heap.size, 0, none⟩) n n) (w.alloc (rowObjB n)) := by
  obtain ⟨i, hi, hz⟩ := Option.map_eq_some_iff.1 infoByte
  simp only [Prod.mk.injEq] at hz
  obtain ⟨h1, h2, h3⟩ := hz
  have hr := run_make (P := Try.prog) w 27 5 i _ Try.underlying27 hi h1 .i64 .i64 n n (by omega) (Int.le_refl _) (by rw [h3]; omega) (by omega)
  simp only [Int.toNat_natCast, h2, Nat.mul_one] at hr
  exact hr
theorem rowObjB_is (w : World) (n : Nat) : (w.alloc (rowObjB n)).rowIs w.heap.size 5 n (fun _ => .int .u8 0) := by
  have h := World.rowIs_alloc w (madeCells #[.int .u8 0] n) 5 (fun _ => .int .u8 0) (fun i hi => by
    rw [size_madeCells] at hi
    simp [madeCells, hi, Nat.mod_one])
  rw [size_madeCells] at h
  exact h
def RowB (w : World) (b t n k : Nat) (f : Nat → Int) : Prop := ∃ g, w.rowIs b t n g ∧ ∀ j, j < k → g j = .int .u8 (f j)
theorem RowB.step {w : World} {b t n k : Nat} {f : Nat → Int} (h : RowB w b t n k f) : RowB (w.setCell ⟨b, k, none⟩ (.int .u8 (f k))) b t n (k + 1) f := by
  obtain ⟨g, hr, hg⟩ := h
  refine ⟨_, hr.set _ _, fun j hj => ?_⟩
  rcases Nat.lt_succ_iff_lt_or_eq.1 hj with h1 | h1
  · have e1 : ¬ j = k := by omega
    simp only [if_neg e1]
    exact hg j h1
  · subst h1
    simp only [if_true]
theorem RowB.below {w w' : World} {B b t n k : Nat} {f : Nat → Int} (h : RowB w b t n k f) (hb : Below B w w') (hB : b < B) : RowB w' b t n k f := by
  obtain ⟨g, hr, hg⟩ := h
  exact ⟨g, hr.of_block (hb.block b hB), hg⟩
theorem RowB.facts {w : World} {b t n k : Nat} {f : Nat → Int} (h : RowB w b t n k f) (hk : k < n) : b < w.heap.size ∧ (∃ v, w.cell? ⟨b, k, none⟩ = some v) ∧ w.frozen? ⟨b, k, none⟩ = false := by
  obtain ⟨g, hr, hg⟩ := h
  exact ⟨hr.lt, ⟨_, hr.cell (by omega)⟩, hr.frozen _⟩
theorem RowB.lt {w : World} {b t n k : Nat} {f : Nat → Int} (h : RowB w b t n k f) : b < w.heap.size := by obtain ⟨g, hr, hg⟩ := h; exact hr.lt
theorem RowB.byts {w : World} {b t N n : Nat} {f : Nat → Int} (h : RowB w b t N n f) (hn : n ≤ N) : Byts w b 0 n f := by
  obtain ⟨g, hr, hg⟩ := h
  exact ⟨hr.lt, fun i hi => by rw [Nat.zero_add, hr.cell (by omega), hg i hi]⟩
set_option maxHeartbeats 1000000 in
theorem toByteS_some (b off n c : Nat) (f : Nat → Int) (w : World) (hn : n ≤ 1048576) (hf : Byts w b off n f) :
    Calls Try.prog 15 #[.slice (some ⟨b, off, none⟩) n c] w fun e w' => e = .returned (.slice (some ⟨w.heap.size, 0, none⟩) n n) ∧ RowB w' w.heap.size 5 n n f ∧ Below w.heap.size w w' := by
  have hmk := mk_rowB n hn
  go_enter Try.func15, Try.ntmps15
  go_wp2_with fail
  clear hmk
  go_loopw [4] (fun i wr => ∃ k : Nat, k ≤ n ∧ i = .int .i64 k ∧ RowB wr w.heap.size 5 n k f ∧ Below w.heap.size w wr) (fun i _ => n - (intOf i).toNat)
  case atStart => exact ⟨0, Nat.zero_le _, rfl, ⟨_, rowObjB_is w n, fun j hj => absurd hj (Nat.not_lt_zero _)⟩, (Below.refl _ _).alloc (Nat.le_refl _) _⟩
  case round =>
    obtain ⟨k, hk, rfl, hrow, hB⟩ := hrel
    by_cases hlt : k < n
    · have c0 : wr.cell? ⟨b, off + k, none⟩ = some (.int .u8 (f k)) := (hf.below hB hf.1).2 k hlt
      have hli : (k : Int) < (n : Int) := by omega
      have hsz := hB.size
      obtain ⟨l1, ⟨v1, e1⟩, f1⟩ := hrow.facts hlt
      go_wp2_with fail
      go_roundw
      case rel => exact ⟨k + 1, by omega, by go_num, hrow.step, hB.setCell (Nat.le_refl _) _⟩
      case measure => simp [intOf]; omega
    · have hkn : k = n := by omega
      subst hkn
      have hli : ¬ (k : Int) < (k : Int) := by omega
      go_wp2_with fail
      go_ret
      exact ⟨rfl, hrow, hB⟩
set_option maxHeartbeats 1000000 in
theorem toByteS_empty (a : Option Addr) (c : Nat) (f : Nat → Int) (w : World) :
    Calls Try.prog 15 #[.slice a 0 c] w fun e w' => e = .returned (.slice (some ⟨w.heap.size, 0, none⟩) 0 0) ∧ RowB w' w.heap.size 5 0 0 f ∧ Below w.heap.size w w' := by
  have hmk := mk_rowB 0 (by omega)
  simp only [Int.ofNat_zero] at hmk
  go_enter Try.func15, Try.ntmps15
  go_wp2_with fail
  clear hmk
  go_loopw [4] (fun i wr => i = .int .i64 0 ∧ RowB wr w.heap.size 5 0 0 f ∧ Below w.heap.size w wr) (fun i _ => 0)
  case atStart => exact ⟨rfl, ⟨_, rowObjB_is w 0, fun j hj => absurd hj (Nat.not_lt_zero _)⟩, (Below.refl _ _).alloc (Nat.le_refl _) _⟩
  case round =>
    obtain ⟨rfl, hrow, hB⟩ := hrel
    go_wp2_with fail
    go_ret
    exact ⟨rfl, hrow, hB⟩
theorem toByteS_any (a : Option Addr) (n c : Nat) (f : Nat → Int) (w : World) (hn : n ≤ 1048576) (h : SrcB w a n f) :
    Calls Try.prog 15 #[.slice a n c] w fun e w' => e = .returned (.slice (some ⟨w.heap.size, 0, none⟩) n n) ∧ RowB w' w.heap.size 5 n n f ∧ Below w.heap.size w w' := by
  rcases h with rfl | ⟨b, off, rfl, h2⟩
  · exact toByteS_empty a c f w
  · exact toByteS_some b off n c f w hn h2
set_option maxHeartbeats 1600000 in
theorem eqByteS_some (b off b' off' n c c' : Nat) (f : Nat → Int) (w : World) (hn : n ≤ maxLen) (hf : Byts w b off n f) (hg : Byts w b' off' n f) :
    Calls Try.prog 11 #[.slice (some ⟨b, off, none⟩) n c, .slice (some ⟨b', off', none⟩) n c'] w fun e w' => e = .returned (.bool true) ∧ Below w.heap.size w w' := by
  unfold maxLen at hn
  go_enter Try.func11, Try.ntmps11
  go_wp2_with fail
  go_loopw [5] (fun i wr => ∃ k : Nat, k ≤ n ∧ i = .int .i64 k ∧ Below w.heap.size w wr) (fun i _ => n - (intOf i).toNat)
  case atStart => exact ⟨0, Nat.zero_le _, rfl, Below.refl _ _⟩
  case round =>
    obtain ⟨k, hk, rfl, hB⟩ := hrel
    by_cases hlt : k < n
    · have c0 : wr.cell? ⟨b, off + k, none⟩ = some (.int .u8 (f k)) := (hf.below hB hf.1).2 k hlt
      have d0 : wr.cell? ⟨b', off' + k, none⟩ = some (.int .u8 (f k)) := (hg.below hB hg.1).2 k hlt
      have hsz := hB.size
      have hli : (k : Int) < (n : Int) := by omega
      go_wp2_with fail
      go_region
      all_goals go_wp2_with fail
      all_goals go_roundw
      all_goals first | (case rel => exact ⟨k + 1, by omega, by go_num, Below.drew hB⟩) | skip
      all_goals first | (case measure => simp [intOf]; omega) | skip
    · go_wp2_with fail
      go_ret
      exact ⟨rfl, hB⟩
set_option maxHeartbeats 400000 in
theorem eqByteS_zero (a a' : Option Addr) (c c' : Nat) (w : World) :
    Calls Try.prog 11 #[.slice a 0 c, .slice a' 0 c'] w fun e w' => e = .returned (.bool true) ∧ Below w.heap.size w w' := by
  go_enter Try.func11, Try.ntmps11
  go_wp2_with fail
  go_loopw [5] (fun i wr => i = .int .i64 0 ∧ w = wr) (fun i _ => 0)
  case atStart => exact ⟨rfl, rfl⟩
  case round =>
    obtain ⟨rfl, rfl⟩ := hrel
    go_wp2_with fail
    go_ret
    exact ⟨rfl, Below.refl _ _⟩
theorem eqByteS_src (a a' : Option Addr) (n c c' : Nat) (f : Nat → Int) (w : World) (hn : n ≤ maxLen) (h : SrcB w a n f) (h' : SrcB w a' n f) :
    Calls Try.prog 11 #[.slice a n c, .slice a' n c'] w fun e w' => e = .returned (.bool true) ∧ Below w.heap.size w w' := by
  by_cases h0 : n = 0
  · subst h0; exact eqByteS_zero a a' c c' w
  · rcases h with h | ⟨b, off, rfl, hp⟩
    · exact absurd h h0
    · rcases h' with h | ⟨b', off', rfl, hp'⟩
      · exact absurd h h0
      · exact eqByteS_some b off b' off' n c c' f w hn hp hp'
def fmb (i : Nat) : Int := IntKind.u8.wrap (1 + (i : Int))
theorem grownB_set {w wr : World} {b : Nat} (h : w.grownBy wr (some b)) (o : Nat) (u : Value) : w.grownBy (wr.setCell ⟨b, o, none⟩ u) (some b) :=
  ⟨h.os, h.tape, h.output, by rw [World.size_setCell]; exact h.size, fun k hk hp => (Below.heap_setCell wr ⟨b, o, none⟩ u k (fun e => hp (by rw [e]))).trans (h.block k hk hp)⟩
theorem grownB_belowB {w w' : World} {b B : Nat} (h : w.grownBy w' (some b)) (hB : B ≤ b) (hs : B ≤ w.heap.size) : Below B w w' := ⟨h.os, h.tape, h.output, h.size, fun k hk => h.block k (by omega) (fun e => by simp at e; omega)⟩
theorem ownB_rowB {w : World} {base : Nat} {T : TypeId} {g n cap : Nat} {xs : List Value} (h : w.ownsRow base T 1 (.slice (some ⟨g, 0, none⟩) n cap) n xs) : base ≤ g ∧ n ≤ cap ∧ RowB w g T cap 0 fmb := by
  rcases h.2 with ⟨h, _⟩ | ⟨g', cap', cur, he, h2, h3, h4, h5, h6, h7⟩
  · simp at h
  · simp at he
    obtain ⟨rfl, rfl⟩ := he
    exact ⟨h2, h4, _, ⟨cur, h3, by omega, fun i hi => by rw [Array.getElem?_eq_getElem (by omega)]; exact congrArg some (by rw [Array.getD_eq_getD_getElem?, Array.getElem?_eq_getElem (by omega)]; rfl : cur[i]'(by omega) = cur.getD i undef)⟩, fun j hj => absurd hj (Nat.not_lt_zero _)⟩
set_option maxHeartbeats 1000000 in
theorem markByteS_row (b N n c : Nat) (w : World) (hn : n ≤ 1048576) (hN : n ≤ N) (h : RowB w b 5 N 0 fmb) :
    Calls Try.prog 12 #[.slice (some ⟨b, 0, none⟩) n c, .int .i64 1] w fun e w' => e = .returned (.int .i64 (1 + (n : Int))) ∧ RowB w' b 5 N n fmb ∧ w.grownBy w' (some b) := by
  go_enter Try.func12, Try.ntmps12
  go_wp2_with fail
  go_loopw [1, 5] (fun q i wr => ∃ k : Nat, k ≤ n ∧ i = .int .i64 k ∧ q = .int .i64 (1 + (k : Int)) ∧ RowB wr b 5 N k fmb ∧ w.grownBy wr (some b)) (fun _ i _ => n - (intOf i).toNat)
  case atStart => exact ⟨0, Nat.zero_le _, rfl, rfl, h, ⟨rfl, rfl, rfl, Nat.le_refl _, fun _ _ _ => rfl⟩⟩
  case round =>
    obtain ⟨k, hk, rfl, rfl, hrow, hg⟩ := hrel
    clear h
    by_cases hlt : k < n
    · have hli : (k : Int) < (n : Int) := by omega
      obtain ⟨l1, ⟨v1, e1⟩, f1⟩ := hrow.facts (show k < N by omega)
      have R2 := hrow.step
      have G2 := grownB_set hg k (.int .u8 (fmb k))
      have q1 : fmb k = IntKind.u8.wrap (1 + (k : Int)) := rfl
      rw [q1] at R2 G2
      clear q1 hrow hg
      go_wp2_with fail
      go_roundw
      case rel => exact ⟨k + 1, by omega, by go_num, by simp; omega, R2, G2⟩
      case measure => simp [intOf]; omega
    · have hkn : k = n := by omega
      subst hkn
      have hli : ¬ (k : Int) < (k : Int) := by omega
      go_wp2_with fail
      go_ret
      exact ⟨rfl, hrow, hg⟩
set_option maxHeartbeats 400000 in
theorem markByteS_zero (a : Option Addr) (c : Nat) (w : World) :
    Calls Try.prog 12 #[.slice a 0 c, .int .i64 1] w fun e w' => e = .returned (.int .i64 1) ∧ w = w' := by
  go_enter Try.func12, Try.ntmps12
  go_wp2_with fail
  go_loopw [1, 5] (fun q i wr => i = .int .i64 0 ∧ q = .int .i64 1 ∧ w = wr) (fun _ i _ => 0)
  case atStart => exact ⟨rfl, rfl, by first | rfl | trivial⟩
  case round =>
    obtain ⟨rfl, rfl, rfl⟩ := hrel
    go_wp2_with fail
    go_ret
    exact ⟨rfl, rfl⟩
theorem markByteS_any (a : Option Addr) (n c base : Nat) (xs : List Value) (w : World) (hn : n ≤ 1048576) (hb : base ≤ w.heap.size) (h : w.ownsRow base 5 1 (.slice a n c) n xs) :
    Calls Try.prog 12 #[.slice a n c, .int .i64 1] w fun e w' => e = .returned (.int .i64 (1 + (n : Int))) ∧ SrcB w' a n fmb ∧ Below base w w' := by
  rcases h.2 with ⟨he, h0⟩ | ⟨g, cap, cur, he, _⟩
  · subst h0
    exact (markByteS_zero a c w).mono fun e w' ⟨h1, h2⟩ => ⟨h1, .inl rfl, h2 ▸ Below.refl _ _⟩
  · simp at he
    obtain ⟨rfl, rfl⟩ := he
    have ⟨h1, h2, h3⟩ := ownB_rowB h
    exact (markByteS_row g c n c w hn h2 h3).mono fun e w' ⟨r1, r2, r3⟩ => ⟨r1, .inr ⟨g, 0, rfl, r2.byts h2⟩, grownB_belowB r3 h1 hb⟩
set_option maxHeartbeats 1000000 in
theorem heldByteS_some (b off n c : Nat) (w : World) (hn : n ≤ 1048576) (h : Byts w b off n fmb) :
    Calls Try.prog 13 #[.slice (some ⟨b, off, none⟩) n c, .int .i64 1] w fun e w' => e = .returned (.int .i64 (1 + (n : Int))) ∧ w = w' := by
  have HP : Hid (Byts w b off n fmb) := h
  clear h
  go_enter Try.func13, Try.ntmps13
  go_wp2_with fail
  go_loopw [1, 5] (fun q i wr => ∃ k : Nat, k ≤ n ∧ i = .int .i64 k ∧ q = .int .i64 (1 + (k : Int)) ∧ w = wr) (fun _ i _ => n - (intOf i).toNat)
  case atStart => exact ⟨0, Nat.zero_le _, rfl, rfl, rfl⟩
  case round =>
    obtain ⟨k, hk, rfl, rfl, rfl⟩ := hrel
    by_cases hlt : k < n
    · have hli : (k : Int) < (n : Int) := by omega
      have c0 : w.cell? ⟨b, off + k, none⟩ = some (.int .u8 (IntKind.u8.wrap (1 + (k : Int)))) := HP.out.2 k hlt
      go_wp2_with fail
      go_roundw
      case rel => exact ⟨k + 1, by omega, by go_num, by simp; omega, by first | rfl | trivial⟩
      case measure => simp [intOf]; omega
    · have hkn : k = n := by omega
      subst hkn
      have hli : ¬ (k : Int) < (k : Int) := by omega
      go_wp2_with fail
      go_ret
      exact ⟨rfl, rfl⟩
set_option maxHeartbeats 400000 in
theorem heldByteS_zero (a : Option Addr) (c : Nat) (w : World) :
    Calls Try.prog 13 #[.slice a 0 c, .int .i64 1] w fun e w' => e = .returned (.int .i64 1) ∧ w = w' := by
  go_enter Try.func13, Try.ntmps13
  go_wp2_with fail
  go_loopw [1, 5] (fun q i wr => i = .int .i64 0 ∧ q = .int .i64 1 ∧ w = wr) (fun _ i _ => 0)
  case atStart => exact ⟨rfl, rfl, by first | rfl | trivial⟩
  case round =>
    obtain ⟨rfl, rfl, rfl⟩ := hrel
    go_wp2_with fail
    go_ret
    exact ⟨rfl, rfl⟩
theorem heldByteS_any (a : Option Addr) (n c : Nat) (w : World) (hn : n ≤ 1048576) (h : SrcB w a n fmb) :
    Calls Try.prog 13 #[.slice a n c, .int .i64 1] w fun e w' => e = .returned (.int .i64 (1 + (n : Int))) ∧ w = w' := by
  rcases h with rfl | ⟨b, off, rfl, hp⟩
  · exact (heldByteS_zero a c w).mono fun e w' ⟨h1, h2⟩ => ⟨h1, h2⟩
  · exact heldByteS_some b off n c w hn hp
end Go.Proofs.Ytnhkpbbkappclaa
