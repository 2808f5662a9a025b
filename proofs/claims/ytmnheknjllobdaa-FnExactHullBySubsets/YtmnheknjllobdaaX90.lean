/- Rows of intervals of one own; what the laws write into them and read back. -/
import Derived.Test.YtmnheknjllobdaaS8
import Derived.Deep.OwnRows
import Derived.WalkKit
import Derived.WalkSpells
import Derived.WalkLawsBesides
import Derived.Deep.RegionHeld
namespace Go.Proofs.Ytmnheknjllobdaa
open Go.RowKit
set_option linter.unusedVariables false
def prs (L : List (Int × Int)) : List Value := L.flatMap fun p => [.int .i64 p.1, .int .i64 p.2]
theorem prs_add (L : List (Int × Int)) (x y : Int) : prs (L ++ [(x, y)]) = prs L ++ [.int .i64 x, .int .i64 y] := by simp [prs]
theorem own_below {w w' : World} {base : Nat} {e : TypeId} {size : Nat} {v : Value} {n : Nat} {xs : List Value} (h : w.ownsRow base e size v n xs) (hb : Below w.heap.size w w') : w'.ownsRow base e size v n xs :=
  h.kept (row := none) ⟨hb.os, hb.tape, hb.output, hb.size, fun k hk _ => hb.block k hk⟩ (by
    cases hv : v.ownBlock with
    | none => exact .inl rfl
    | some g => exact .inr (by simp))
theorem own_set {w : World} {base : Nat} {e : TypeId} {size : Nat} {v : Value} {n : Nat} {xs : List Value} (h : w.ownsRow base e size v n xs) {k : Nat} (hk : ∀ g, v.ownBlock = some g → g ≠ k) (o : Nat) (u : Value) : (w.setCell ⟨k, o, none⟩ u).ownsRow base e size v n xs :=
  ownsRow_setCell_other h (by
    cases hv : v.ownBlock with
    | none => simp
    | some g => simp; exact hk g hv) u
theorem grown_below {w w' : World} {base : Nat} {e : TypeId} {size : Nat} {v : Value} {n : Nat} {xs : List Value} (h : w.ownsRow base e size v n xs) (hg : w.grownBy w' v.ownBlock) (hb : base ≤ w.heap.size) : Below base w w' :=
  ⟨hg.os, hg.tape, hg.output, hg.size, fun k hk => hg.block k (by omega) (fun he => by have := (h.lt k he.symm).1; omega)⟩
theorem pair_at (w : World) (a b : Int) (T : TypeId) (j : Nat) (u : Value) (h : [Value.int .i64 a, Value.int .i64 b][j]? = some u) : (w.alloc (.cells #[.int .i64 a, .int .i64 b] T)).cell? ((⟨w.heap.size, 0, none⟩ : Addr).add j) = some u := by
  match j, h with
  | 0, h => simp at h; subst h; simp [Addr.add]
  | 1, h => simp at h; subst h; simp [Addr.add]
theorem own_base {w : World} {base base' : Nat} {e : TypeId} {size : Nat} {v : Value} {n : Nat} {xs : List Value} (h : w.ownsRow base e size v n xs) (hb : base' ≤ base) : w.ownsRow base' e size v n xs := by
  refine ⟨h.1, ?_⟩
  rcases h.2 with h | ⟨g, cap, cur, h1, h2, h3⟩
  · exact .inl h
  · exact .inr ⟨g, cap, cur, h1, by omega, h3⟩
theorem own_one (w : World) (base : Nat) (T : TypeId) (x y : Int) (hb : base ≤ w.heap.size) : (w.alloc (.cells #[.int .i64 x, .int .i64 y] T)).ownsRow base T 2 (.slice (some ⟨w.heap.size, 0, none⟩) 1 1) 1 (prs [(x, y)]) :=
  ⟨by simp [prs], .inr ⟨w.heap.size, 1, _, rfl, hb, heap_alloc_new w _, Nat.le_refl _, by simp [maxLen], by simp, by simp [prs]⟩⟩
theorem prs_at (L : List (Int × Int)) (i : Nat) (hi : i < L.length) : (prs L)[i * 2]? = some (.int .i64 (L.getD i (0, 0)).1) ∧ (prs L)[i * 2 + 1]? = some (.int .i64 (L.getD i (0, 0)).2) := by
  induction L generalizing i with
  | nil => simp at hi
  | cons p L ih =>
    cases i with
    | zero => simp [prs]
    | succ i =>
      have := ih i (by simpa using hi)
      have e : prs (p :: L) = .int .i64 p.1 :: .int .i64 p.2 :: prs L := by simp [prs]
      rw [e, show (i + 1) * 2 = i * 2 + 1 + 1 by omega]
      simpa using this
theorem own_src {w : World} {base : Nat} {T : TypeId} {v : Value} {L : List (Int × Int)} (h : w.ownsRow base T 2 v L.length (prs L)) :
    ∃ a c, v = .slice a L.length c ∧ L.length ≤ c ∧ c ≤ maxLen ∧ Src w a L.length (fun i => L.getD i (0, 0)) := by
  rcases h.2 with ⟨rfl, h0⟩ | ⟨g, cap, cur, rfl, hb, hg, hc, hm, hs, ht⟩
  · exact ⟨none, 0, by rw [h0], by omega, by simp [maxLen], .inl h0⟩
  · refine ⟨_, cap, rfl, hc, hm, .inr ⟨g, 0, rfl, (Array.getElem?_eq_some_iff.1 hg).1, fun i hi => ?_⟩⟩
    have ⟨h1, h2⟩ := prs_at L i hi
    have hcell : ∀ j u, j < L.length * 2 → (prs L)[j]? = some u → w.cell? ⟨g, j, none⟩ = some u := by
      intro j u hj hu
      rw [← ht, List.getElem?_take, if_pos hj] at hu
      simp [World.cell?, hg] 
      simpa using hu
    exact ⟨by simpa using hcell (i * 2) _ (by omega) h1, by simpa using hcell (i * 2 + 1) _ (by omega) h2⟩
def fmk (i : Nat) : Int × Int := (1 + 2 * (i : Int), 2 + 2 * (i : Int))
theorem own_belowB {w w' : World} {B base : Nat} {e : TypeId} {size : Nat} {v : Value} {n : Nat} {xs : List Value} (h : w.ownsRow base e size v n xs) (hb : Below B w w') (hlt : ∀ g, v.ownBlock = some g → g < B) : w'.ownsRow base e size v n xs := by
  refine ⟨h.1, ?_⟩
  rcases h.2 with h | ⟨g, cap, cur, rfl, h2, h3, h4⟩
  · exact .inl h
  · exact .inr ⟨g, cap, cur, rfl, h2, (hb.block g (hlt g rfl)).trans h3, h4⟩
theorem own_grown {w w' : World} {base k : Nat} {e : TypeId} {size : Nat} {v : Value} {n : Nat} {xs : List Value} (h : w.ownsRow base e size v n xs) (hg : w.grownBy w' (some k)) (hk : ∀ g, v.ownBlock = some g → g ≠ k) : w'.ownsRow base e size v n xs :=
  h.kept hg (by
    cases hv : v.ownBlock with
    | none => exact .inl rfl
    | some g => exact .inr (fun he => hk g hv (by simpa using he)))
theorem grown_set {w wr : World} {b : Nat} (h : w.grownBy wr (some b)) (o : Nat) (u : Value) : w.grownBy (wr.setCell ⟨b, o, none⟩ u) (some b) :=
  ⟨h.os, h.tape, h.output, by rw [World.size_setCell]; exact h.size, fun k hk hp => (Below.heap_setCell wr ⟨b, o, none⟩ u k (fun e => hp (by rw [e]))).trans (h.block k hk hp)⟩
theorem grown_belowB {w w' : World} {b B : Nat} (h : w.grownBy w' (some b)) (hB : B ≤ b) (hs : B ≤ w.heap.size) : Below B w w' := ⟨h.os, h.tape, h.output, h.size, fun k hk => h.block k (by omega) (fun e => by simp at e; omega)⟩
theorem own_rowK {w : World} {base : Nat} {T : TypeId} {g n cap : Nat} {xs : List Value} (h : w.ownsRow base T 2 (.slice (some ⟨g, 0, none⟩) n cap) n xs) : base ≤ g ∧ n ≤ cap ∧ RowK w g T cap 0 fmk := by
  rcases h.2 with ⟨h, _⟩ | ⟨g', cap', cur, he, h2, h3, h4, h5, h6, h7⟩
  · simp at h
  · simp at he
    obtain ⟨rfl, rfl⟩ := he
    exact ⟨h2, h4, _, ⟨cur, h3, h6, fun i hi => by rw [Array.getElem?_eq_getElem (by omega)]; exact congrArg some (by rw [Array.getD_eq_getD_getElem?, Array.getElem?_eq_getElem (by omega)]; rfl : cur[i]'(by omega) = cur.getD i undef)⟩, fun j hj => absurd hj (Nat.not_lt_zero _)⟩
theorem rowK_prs {w : World} {b t N n : Nat} {f : Nat → Int × Int} (h : RowK w b t N n f) (hn : n ≤ N) : Prs w b 0 n f := by
  obtain ⟨g, hr, hg⟩ := h
  exact ⟨hr.lt, fun i hi => ⟨by rw [Nat.zero_add, hr.cell (by omega), (hg i hi).1], by rw [Nat.zero_add, hr.cell (by omega), (hg i hi).2]⟩⟩
set_option maxHeartbeats 1000000 in
theorem markIvalS_row (b N n c : Nat) (f0 : Nat → Int × Int) (w : World) (hn : n ≤ 1048576) (hN : n ≤ N) (h : RowK w b 33 N 0 f0) :
    Calls Try.prog 20 #[.slice (some ⟨b, 0, none⟩) n c, .int .i64 1] w fun e w' => e = .returned (.int .i64 (1 + 2 * (n : Int))) ∧ RowK w' b 33 N n fmk ∧ w.grownBy w' (some b) := by
  have h0 : RowK w b 33 N 0 fmk := by obtain ⟨g, hr, _⟩ := h; exact ⟨g, hr, fun j hj => absurd hj (Nat.not_lt_zero _)⟩
  clear h
  go_enter Try.func20, Try.ntmps20
  go_wp2_with fail
  go_loopw [1, 5] (fun q i wr => ∃ k : Nat, k ≤ n ∧ i = .int .i64 k ∧ q = .int .i64 (1 + 2 * (k : Int)) ∧ RowK wr b 33 N k fmk ∧ w.grownBy wr (some b)) (fun _ i _ => n - (intOf i).toNat)
  case atStart => exact ⟨0, Nat.zero_le _, rfl, rfl, h0, ⟨rfl, rfl, rfl, Nat.le_refl _, fun _ _ _ => rfl⟩⟩
  case round =>
    obtain ⟨k, hk, rfl, rfl, hrow, hg⟩ := hrel
    clear h0
    by_cases hlt : k < n
    · have hli : (k : Int) < (n : Int) := by omega
      obtain ⟨l1, ⟨v1, e1⟩, ⟨v2, e2⟩, f1, f2⟩ := hrow.facts (show k < N by omega)
      have R2 := hrow.step
      have G2 := grown_set (grown_set hg (k * 2) (.int .i64 (fmk k).1)) (k * 2 + 1) (.int .i64 (fmk k).2)
      have q1 : (fmk k).1 = 1 + 2 * (k : Int) := rfl
      have q2 : (fmk k).2 = 1 + 2 * (k : Int) + 1 := by simp [fmk]; omega
      rw [q1, q2] at R2 G2
      clear q1 q2 hrow hg
      go_wp2_with fail
      go_roundw
      case rel => exact ⟨k + 1, by omega, by go_num, by simp; omega, R2, G2⟩
      case measure => simp [intOf]; omega
    · have hkn : k = n := by omega
      subst hkn
      have hli : ¬ (k : Int) < (k : Int) := by omega
      go_wp2_with fail
      go_ret
      exact ⟨rfl, hrow, hg⟩
set_option maxHeartbeats 400000 in
theorem markIvalS_zero (a : Option Addr) (c : Nat) (w : World) :
    Calls Try.prog 20 #[.slice a 0 c, .int .i64 1] w fun e w' => e = .returned (.int .i64 1) ∧ w = w' := by
  go_enter Try.func20, Try.ntmps20
  go_wp2_with fail
  go_loopw [1, 5] (fun q i wr => i = .int .i64 0 ∧ q = .int .i64 1 ∧ w = wr) (fun _ i _ => 0)
  case atStart => exact ⟨rfl, rfl, by first | rfl | trivial⟩
  case round =>
    obtain ⟨rfl, rfl, rfl⟩ := hrel
    go_wp2_with fail
    go_ret
    exact ⟨rfl, rfl⟩
theorem markIvalS_any (a : Option Addr) (n c base : Nat) (xs : List Value) (w : World) (hn : n ≤ 1048576) (hb : base ≤ w.heap.size) (h : w.ownsRow base 33 2 (.slice a n c) n xs) :
    Calls Try.prog 20 #[.slice a n c, .int .i64 1] w fun e w' => e = .returned (.int .i64 (1 + 2 * (n : Int))) ∧ Src w' a n fmk ∧ Below base w w' := by
  rcases h.2 with ⟨he, h0⟩ | ⟨g, cap, cur, he, _⟩
  · subst h0
    exact (markIvalS_zero a c w).mono fun e w' ⟨h1, h2⟩ => ⟨h1, .inl rfl, h2 ▸ Below.refl _ _⟩
  · simp at he
    obtain ⟨rfl, rfl⟩ := he
    have ⟨h1, h2, h3⟩ := own_rowK h
    exact (markIvalS_row g c n c fmk w hn h2 h3).mono fun e w' ⟨r1, r2, r3⟩ => ⟨r1, .inr ⟨g, 0, rfl, rowK_prs r2 h2⟩, grown_belowB r3 h1 hb⟩
set_option maxHeartbeats 1000000 in
theorem heldIvalS_some (b off n c : Nat) (w : World) (hn : n ≤ 1048576) (h : Prs w b off n fmk) :
    Calls Try.prog 21 #[.slice (some ⟨b, off, none⟩) n c, .int .i64 1] w fun e w' => e = .returned (.int .i64 (1 + 2 * (n : Int))) ∧ w = w' := by
  have HP : Hid (Prs w b off n fmk) := h
  clear h
  go_enter Try.func21, Try.ntmps21
  go_wp2_with fail
  go_loopw [1, 5] (fun q i wr => ∃ k : Nat, k ≤ n ∧ i = .int .i64 k ∧ q = .int .i64 (1 + 2 * (k : Int)) ∧ w = wr) (fun _ i _ => n - (intOf i).toNat)
  case atStart => exact ⟨0, Nat.zero_le _, rfl, rfl, rfl⟩
  case round =>
    obtain ⟨k, hk, rfl, rfl, rfl⟩ := hrel
    by_cases hlt : k < n
    · have hli : (k : Int) < (n : Int) := by omega
      have c0 : w.cell? ⟨b, off + k * 2, none⟩ = some (.int .i64 (1 + 2 * (k : Int))) := (HP.out.2 k hlt).1
      have c1 : w.cell? ⟨b, off + k * 2 + 1, none⟩ = some (.int .i64 (1 + 2 * (k : Int) + 1)) := by
        have := (HP.out.2 k hlt).2
        rw [show (fmk k).2 = 1 + 2 * (k : Int) + 1 by simp [fmk]; omega] at this
        exact this
      go_wp2_with fail
      go_roundw
      case rel => exact ⟨k + 1, by omega, by go_num, by simp; omega, by first | rfl | trivial⟩
      case measure => simp [intOf]; omega
    · have hkn : k = n := by omega
      subst hkn
      have hli : ¬ (k : Int) < (k : Int) := by omega
      go_wp2_with fail
      go_ret
      exact ⟨rfl, rfl⟩
set_option maxHeartbeats 400000 in
theorem heldIvalS_zero (a : Option Addr) (c : Nat) (w : World) :
    Calls Try.prog 21 #[.slice a 0 c, .int .i64 1] w fun e w' => e = .returned (.int .i64 1) ∧ w = w' := by
  go_enter Try.func21, Try.ntmps21
  go_wp2_with fail
  go_loopw [1, 5] (fun q i wr => i = .int .i64 0 ∧ q = .int .i64 1 ∧ w = wr) (fun _ i _ => 0)
  case atStart => exact ⟨rfl, rfl, by first | rfl | trivial⟩
  case round =>
    obtain ⟨rfl, rfl, rfl⟩ := hrel
    go_wp2_with fail
    go_ret
    exact ⟨rfl, rfl⟩
theorem heldIvalS_any (a : Option Addr) (n c : Nat) (w : World) (hn : n ≤ 1048576) (h : Src w a n fmk) :
    Calls Try.prog 21 #[.slice a n c, .int .i64 1] w fun e w' => e = .returned (.int .i64 (1 + 2 * (n : Int))) ∧ w = w' := by
  rcases h with rfl | ⟨b, off, rfl, hp⟩
  · exact heldIvalS_zero a c w
  · exact heldIvalS_some b off n c w hn hp
set_option maxHeartbeats 400000 in
theorem eqIvalS_zero (a a' : Option Addr) (c c' : Nat) (w : World) :
    Calls Try.prog 15 #[.slice a 0 c, .slice a' 0 c'] w fun e w' => e = .returned (.bool true) ∧ Below w.heap.size w w' := by
  go_enter Try.func15, Try.ntmps15
  go_wp2_with fail
  go_loopw [5] (fun i wr => i = .int .i64 0 ∧ w = wr) (fun i _ => 0)
  case atStart => exact ⟨rfl, rfl⟩
  case round =>
    obtain ⟨rfl, rfl⟩ := hrel
    go_wp2_with fail
    go_ret
    exact ⟨rfl, Below.refl _ _⟩
theorem eqIvalS_src (a a' : Option Addr) (n c c' : Nat) (f : Nat → Int × Int) (w : World) (hn : n ≤ maxLen) (h : Src w a n f) (h' : Src w a' n f) :
    Calls Try.prog 15 #[.slice a n c, .slice a' n c'] w fun e w' => e = .returned (.bool true) ∧ Below w.heap.size w w' := by
  by_cases h0 : n = 0
  · subst h0; exact eqIvalS_zero a a' c c' w
  · rcases h with h | ⟨b, off, rfl, hp⟩
    · exact absurd h h0
    · rcases h' with h | ⟨b', off', rfl, hp'⟩
      · exact absurd h h0
      · exact eqIvalS_same b off b' off' n c c' f w hn hp hp'
set_option maxHeartbeats 1000000 in
theorem toIvalS_rsome (b off n c : Nat) (f : Nat → Int × Int) (w : World) (hn : n ≤ 1048576) (hf : Prs w b off n f) :
    Calls Try.prog 13 #[.slice (some ⟨b, off, none⟩) n c] w fun e w' => e = .returned (.slice (some ⟨w.heap.size, 0, none⟩) n n) ∧ RowK w' w.heap.size 33 n n f ∧ Below w.heap.size w w' := by
  have hmk := mk_row n hn
  go_enter Try.func13, Try.ntmps13
  go_wp2_with fail
  clear hmk
  go_loopw [4] (fun i wr => ∃ k : Nat, k ≤ n ∧ i = .int .i64 k ∧ RowK wr w.heap.size 33 n k f ∧ Below w.heap.size w wr) (fun i _ => n - (intOf i).toNat)
  case atStart => exact ⟨0, Nat.zero_le _, rfl, ⟨_, rowObj_is w n, fun j hj => absurd hj (Nat.not_lt_zero _)⟩, (Below.refl _ _).alloc (Nat.le_refl _) _⟩
  case round =>
    obtain ⟨k, hk, rfl, hrow, hB⟩ := hrel
    by_cases hlt : k < n
    · have c0 : wr.cell? ⟨b, off + k * 2, none⟩ = some (.int .i64 (f k).1) := ((hf.below hB hf.1).2 k hlt).1
      have c1 : wr.cell? ⟨b, off + k * 2 + 1, none⟩ = some (.int .i64 (f k).2) := ((hf.below hB hf.1).2 k hlt).2
      have hli : (k : Int) < (n : Int) := by omega
      have hsz := hB.size
      have hwl : w.heap.size < wr.heap.size := (hrow.facts hlt).1
      go_wp2_with fail
      refine (toIval_any _ _ _).mono ?_
      rintro e w1 ⟨rfl, hb⟩
      have hrow1 := hrow.below hb hwl
      obtain ⟨l1, ⟨v1, e1⟩, ⟨v2, e2⟩, f1, f2⟩ := hrow1.facts hlt
      go_wp2_with fail
      go_roundw
      case rel => exact ⟨k + 1, by omega, by go_num, hrow1.step, ((hB.trans (hb.mono hsz)).setCell (Nat.le_refl _) _).setCell (Nat.le_refl _) _⟩
      case measure => simp [intOf]; omega
    · have hkn : k = n := by omega
      subst hkn
      obtain ⟨g, hr, hg⟩ := hrow
      have hli : ¬ (k : Int) < (k : Int) := by omega
      go_wp2_with fail
      go_ret
      exact ⟨rfl, ⟨g, hr, hg⟩, hB⟩
set_option maxHeartbeats 1000000 in
theorem toIvalS_rempty (a : Option Addr) (c : Nat) (f : Nat → Int × Int) (w : World) :
    Calls Try.prog 13 #[.slice a 0 c] w fun e w' => e = .returned (.slice (some ⟨w.heap.size, 0, none⟩) 0 0) ∧ RowK w' w.heap.size 33 0 0 f ∧ Below w.heap.size w w' := by
  have hmk := mk_row 0 (by omega)
  simp only [Int.ofNat_zero] at hmk
  go_enter Try.func13, Try.ntmps13
  go_wp2_with fail
  clear hmk
  go_loopw [4] (fun i wr => i = .int .i64 0 ∧ RowK wr w.heap.size 33 0 0 f ∧ Below w.heap.size w wr) (fun i _ => 0)
  case atStart => exact ⟨rfl, ⟨_, rowObj_is w 0, fun j hj => absurd hj (Nat.not_lt_zero _)⟩, (Below.refl _ _).alloc (Nat.le_refl _) _⟩
  case round =>
    obtain ⟨rfl, hrow, hB⟩ := hrel
    obtain ⟨g, hr, hg⟩ := hrow
    go_wp2_with fail
    go_ret
    exact ⟨rfl, ⟨g, hr, hg⟩, hB⟩
theorem toIvalS_row (a : Option Addr) (n c : Nat) (f : Nat → Int × Int) (w : World) (hn : n ≤ 1048576) (h : Src w a n f) :
    Calls Try.prog 13 #[.slice a n c] w fun e w' => e = .returned (.slice (some ⟨w.heap.size, 0, none⟩) n n) ∧ RowK w' w.heap.size 33 n n f ∧ Below w.heap.size w w' := by
  rcases h with rfl | ⟨b, off, rfl, h2⟩
  · exact toIvalS_rempty a c f w
  · exact toIvalS_rsome b off n c f w hn h2
end Go.Proofs.Ytmnheknjllobdaa
