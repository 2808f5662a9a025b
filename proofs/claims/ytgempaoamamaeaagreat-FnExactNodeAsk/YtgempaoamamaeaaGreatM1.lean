/- The cursor of the draws: what l1Byte, l1Below, l1Once and l1PickInt leave. Contracts of the functions of chapter 1 (intervals) in the specification and in the program, and the walks of its first exact laws. Number forms: what the bytes of a number are; rows of bytes in memory. Rows of structs in memory; the text of a mark. Contracts of the helpers of chapter 1 (told intervals, least and greatest, meet and join). Contracts of the small functions of chapter 2 (drift) in the specification and in the program. Contracts of Fold and Unfold, and the walks of their exact laws. Contracts of MsgOk. Flights: contracts of what asks whether one is right; what the laws make of one. Plans: numbers. Contracts of OscOk, and the walk of its exact law. A local interval in memory; contracts of LocalOk, and the walk of its exact law. -/
import Derived.Test.YtgempaoamamaeaaGreatRows
import Derived.WalkKit
import Derived.WalkSpells
import Derived.WalkLawsBesides
import Derived.Deep.QuietTactic
import Derived.BigQuiet
import Derived.Deep.OwnRows
import Derived.Deep.RegionHeld
import Derived.Laws.BytesArg
namespace Go.Proofs.YtgempaoamamaeaaGreat
open Go.RowKit
set_option linter.unusedVariables false
def But (p : Nat) (w w' : World) : Prop := w'.os = w.os ∧ w'.tape = w.tape ∧ w'.output = w.output ∧ w.heap.size ≤ w'.heap.size ∧ ∀ k, k < w.heap.size → k ≠ p → w'.heap[k]? = w.heap[k]?
theorem But.refl (p : Nat) (w : World) : But p w w := ⟨rfl, rfl, rfl, Nat.le_refl _, fun _ _ _ => rfl⟩
theorem But.trans {p : Nat} {a b c : World} (h : But p a b) (k : But p b c) : But p a c :=
  ⟨k.1.trans h.1, k.2.1.trans h.2.1, k.2.2.1.trans h.2.2.1, Nat.le_trans h.2.2.2.1 k.2.2.2.1, fun i hi hp => (k.2.2.2.2 i (Nat.lt_of_lt_of_le hi h.2.2.2.1) hp).trans (h.2.2.2.2 i hi hp)⟩
theorem But.setCell {p : Nat} {a w : World} (h : But p a w) (o : Nat) (u : Value) : But p a (w.setCell ⟨p, o, none⟩ u) :=
  ⟨h.1, h.2.1, h.2.2.1, by rw [World.size_setCell]; exact h.2.2.2.1, fun k hk hp => (Below.heap_setCell w ⟨p, o, none⟩ u k hp).trans (h.2.2.2.2 k hk hp)⟩
theorem But.below {p B : Nat} {w w' : World} (h : But p w w') (hB : B ≤ p) (hs : B ≤ w.heap.size) : Below B w w' := ⟨h.1, h.2.1, h.2.2.1, h.2.2.2.1, fun k hk => h.2.2.2.2 k (by omega) (by omega)⟩
theorem But.cell {p k o : Nat} {w w' : World} (h : But p w w') (hk : k < w.heap.size) (hp : k ≠ p) : w'.cell? ⟨k, o, none⟩ = w.cell? ⟨k, o, none⟩ := World.cell?_of_block (w := w) (h.2.2.2.2 k hk hp)
theorem But.frozen {p k o : Nat} {w w' : World} (h : But p w w') (hk : k < w.heap.size) (hp : k ≠ p) : w'.frozen? ⟨k, o, none⟩ = w.frozen? ⟨k, o, none⟩ := World.frozen?_of_block (w := w) (h.2.2.2.2 k hk hp)
def CodeB (w : World) (B : Nat) (a : Option Addr) (n : Nat) : Prop := n = 0 ∨ ∃ b off, a = some ⟨b, off, none⟩ ∧ b < B ∧ ∀ i, i < n → ∃ z : Int, w.cell? ⟨b, off + i, none⟩ = some (.int .u8 z) ∧ 0 ≤ z ∧ z ≤ 255
theorem CodeB.below {w w' : World} {B : Nat} {a : Option Addr} {n : Nat} (h : CodeB w B a n) (hb : Below B w w') : CodeB w' B a n := by
  rcases h with h | ⟨b, off, h1, h2, h3⟩
  · exact .inl h
  · exact .inr ⟨b, off, h1, h2, fun i hi => by
      obtain ⟨z, e, hz⟩ := h3 i hi
      exact ⟨z, by rw [hb.cell (p := ⟨b, off + i, none⟩) h2]; exact e, hz⟩⟩
def CurAt (w : World) (B p : Nat) (a : Option Addr) (n c i : Nat) (h : Int) : Prop :=
  w.cell? ⟨p, 0, none⟩ = some (.slice a n c) ∧ w.cell? ⟨p, 1, none⟩ = some (.int .i64 i) ∧ w.cell? ⟨p, 2, none⟩ = some (.int .i64 h) ∧
  w.frozen? ⟨p, 0, none⟩ = false ∧ w.frozen? ⟨p, 1, none⟩ = false ∧ w.frozen? ⟨p, 2, none⟩ = false ∧ i ≤ n ∧ n ≤ 1048576 ∧ CodeB w B a n ∧ B ≤ p ∧ p < w.heap.size
def CurOk (w : World) (B p : Nat) : Prop := ∃ a n c i h, CurAt w B p a n c i h
theorem CurOk.lt {w : World} {B p : Nat} (h : CurOk w B p) : p < w.heap.size ∧ B ≤ p := by
  obtain ⟨a, n, c, i, hh, h⟩ := h
  exact ⟨h.2.2.2.2.2.2.2.2.2.2, h.2.2.2.2.2.2.2.2.2.1⟩
theorem CurOk.below {w w' : World} {B p : Nat} (h : CurOk w B p) (hb : Below w.heap.size w w') : CurOk w' B p := by
  obtain ⟨a, n, c, i, hh, h0, h1, h2, f0, f1, f2, hi, hn, hc, hB, hp⟩ := h
  refine ⟨a, n, c, i, hh, ?_, ?_, ?_, ?_, ?_, ?_, hi, hn, hc.below (hb.mono (by omega)), hB, Nat.lt_of_lt_of_le hp hb.size⟩
  · rw [hb.cell (p := ⟨p, 0, none⟩) hp]; exact h0
  · rw [hb.cell (p := ⟨p, 1, none⟩) hp]; exact h1
  · rw [hb.cell (p := ⟨p, 2, none⟩) hp]; exact h2
  · rw [hb.frozen (p := ⟨p, 0, none⟩) hp]; exact f0
  · rw [hb.frozen (p := ⟨p, 1, none⟩) hp]; exact f1
  · rw [hb.frozen (p := ⟨p, 2, none⟩) hp]; exact f2
theorem CurAt.set2 {w : World} {B p : Nat} {a : Option Addr} {n c i : Nat} {h : Int} (hc : CurAt w B p a n c i h) (k : Int) : CurAt (w.setCell ⟨p, 2, none⟩ (.int .i64 k)) B p a n c i k := by
  obtain ⟨h0, h1, h2, f0, f1, f2, hi, hn, hcode, hB, hp⟩ := hc
  refine ⟨?_, ?_, ?_, by simpa using f0, by simpa using f1, by simpa using f2, hi, hn, hcode.below ((Below.refl _ _).setCell hB _), hB, by simpa using hp⟩
  · rw [World.cell?_setCell_other _ _ _ _ (by simp)]; exact h0
  · rw [World.cell?_setCell_other _ _ _ _ (by simp)]; exact h1
  · exact World.cell?_setCell_same _ _ _ h2
theorem CurAt.set1 {w : World} {B p : Nat} {a : Option Addr} {n c i : Nat} {h : Int} (hc : CurAt w B p a n c i h) (k : Nat) (hk : k ≤ n) : CurAt (w.setCell ⟨p, 1, none⟩ (.int .i64 k)) B p a n c k h := by
  obtain ⟨h0, h1, h2, f0, f1, f2, hi, hn, hcode, hB, hp⟩ := hc
  refine ⟨?_, ?_, ?_, by simpa using f0, by simpa using f1, by simpa using f2, hk, hn, hcode.below ((Below.refl _ _).setCell hB _), hB, by simpa using hp⟩
  · rw [World.cell?_setCell_other _ _ _ _ (by simp)]; exact h0
  · exact World.cell?_setCell_same _ _ _ h1
  · rw [World.cell?_setCell_other _ _ _ _ (by simp)]; exact h2
end Go.Proofs.YtgempaoamamaeaaGreat
namespace Go.Proofs.YtgempaoamamaeaaGreat
open Go.RowKit
set_option linter.unusedVariables false
theorem ret_bool {a b : Bool} (h : a = b) : Ending.returned (.bool a) = .returned (.bool b) := by rw [h]
theorem bcell {W w1 : World} (hb : Below W.heap.size W w1) : (∀ b o, b < W.heap.size → w1.cell? ⟨b, o, none⟩ = W.cell? ⟨b, o, none⟩) ∧ (∀ b o, b < W.heap.size → w1.frozen? ⟨b, o, none⟩ = W.frozen? ⟨b, o, none⟩) :=
  ⟨fun b o h => hb.cell (p := ⟨b, o, none⟩) h, fun b o h => hb.frozen (p := ⟨b, o, none⟩) h⟩
def okI (lo hi : Int) : Bool := decide (lo ≤ hi ∧ -1000000000000 ≤ lo ∧ hi ≤ 1000000000000)
set_option maxHeartbeats 400000 in
theorem specIvalOk_any (lo hi : Int) (w : World) :
    Calls Tryz.prog 106 #[.agg #[.int .i64 lo, .int .i64 hi]] w fun e w' => e = .returned (.bool (okI lo hi)) ∧ Below w.heap.size w w' := by
  go_enter Tryz.func106, Tryz.ntmps106
  go_wp2
  all_goals go_ret
  all_goals exact ⟨ret_bool (by rw [Bool.eq_iff_iff]; simp [okI]; try omega), by repeat (first | exact Below.refl _ _ | refine Below.drew ?_ | refine Below.alloc ?_ (by first | (simp; done) | (simp; omega) | omega) _ | refine Below.setCell ?_ (by first | (simp; done) | (simp; omega) | omega) _ | refine Below.trans ?_ (Below.mono (by assumption) (by first | (simp; done) | (simp; omega) | omega)))⟩
set_option maxHeartbeats 400000 in
theorem ok_any (lo hi : Int) (w : World) :
    Calls Tryz.prog 148 #[.agg #[.int .i64 lo, .int .i64 hi]] w fun e w' => e = .returned (.bool (okI lo hi)) ∧ Below w.heap.size w w' := by
  go_enter Tryz.func148, Tryz.ntmps148
  go_wp2
  all_goals go_ret
  all_goals exact ⟨ret_bool (by rw [Bool.eq_iff_iff]; simp [okI]; try omega), by repeat (first | exact Below.refl _ _ | refine Below.drew ?_ | refine Below.alloc ?_ (by first | (simp; done) | (simp; omega) | omega) _ | refine Below.setCell ?_ (by first | (simp; done) | (simp; omega) | omega) _ | refine Below.trans ?_ (Below.mono (by assumption) (by first | (simp; done) | (simp; omega) | omega)))⟩
set_option maxHeartbeats 400000 in
theorem toIval_any (lo hi : Int) (w : World) :
    Calls Tryz.prog 84 #[.agg #[.int .i64 lo, .int .i64 hi]] w fun e w' => e = .returned (.agg #[.int .i64 lo, .int .i64 hi]) ∧ Below w.heap.size w w' := by
  go_enter Tryz.func84, Tryz.ntmps84
  go_wp2
  exact bodyPost_ret (v := .agg #[.int .i64 lo, .int .i64 hi]) (by simp [results, Tryz.results84, go_sem]) rfl ⟨rfl, by repeat (first | exact Below.refl _ _ | refine Below.drew ?_ | refine Below.alloc ?_ (by first | (simp; done) | (simp; omega) | omega) _ | refine Below.setCell ?_ (by first | (simp; done) | (simp; omega) | omega) _ | refine Below.trans ?_ (Below.mono (by assumption) (by first | (simp; done) | (simp; omega) | omega)))⟩
end Go.Proofs.YtgempaoamamaeaaGreat
namespace Go.Proofs.YtgempaoamamaeaaGreat
open Go.RowKit
set_option linter.unusedVariables false
def Byts (w : World) (b off n : Nat) (f : Nat → Int) : Prop := b < w.heap.size ∧ ∀ i, i < n → w.cell? ⟨b, off + i, none⟩ = some (.int .u8 (f i))
theorem Byts.below {w w' : World} {B b off n : Nat} {f : Nat → Int} (h : Byts w b off n f) (hb : Below B w w') (hB : b < B) : Byts w' b off n f :=
  ⟨Nat.lt_of_lt_of_le h.1 hb.size, fun i hi => by rw [hb.cell (p := ⟨b, off + i, none⟩) hB]; exact h.2 i hi⟩
def SrcB (w : World) (a : Option Addr) (n : Nat) (f : Nat → Int) : Prop := n = 0 ∨ ∃ b off, a = some ⟨b, off, none⟩ ∧ Byts w b off n f
theorem SrcB.below {w w' : World} {a : Option Addr} {n : Nat} {f : Nat → Int} (h : SrcB w a n f) (hb : Below w.heap.size w w') : SrcB w' a n f := by
  rcases h with h | ⟨b, off, h1, h2⟩
  · exact .inl h
  · exact .inr ⟨b, off, h1, h2.below hb h2.1⟩
end Go.Proofs.YtgempaoamamaeaaGreat
namespace Go.Proofs.YtgempaoamamaeaaGreat
open Go.RowKit
set_option linter.unusedVariables false
theorem Below.nw (w : World) (o : Obj) : Below w.heap.size w (w.alloc o) := (Below.refl _ _).alloc (Nat.le_refl _) _
def Cs (w : World) (b off N : Nat) (F : Nat → Value) : Prop := b < w.heap.size ∧ ∀ j, j < N → w.cell? ⟨b, off + j, none⟩ = some (F j)
theorem Cs.below {w w' : World} {B b off N : Nat} {F : Nat → Value} (h : Cs w b off N F) (hb : Below B w w') (hB : b < B) : Cs w' b off N F :=
  ⟨Nat.lt_of_lt_of_le h.1 hb.size, fun j hj => by rw [hb.cell (p := ⟨b, off + j, none⟩) hB]; exact h.2 j hj⟩
theorem Cs.drew {w : World} {b off N : Nat} {F : Nat → Value} (h : Cs w b off N F) : Cs w.drew b off N F := h
theorem Cs.but {w w' : World} {p b off N : Nat} {F : Nat → Value} (h : Cs w b off N F) (hb : But p w w') (hp : b ≠ p) : Cs w' b off N F :=
  ⟨Nat.lt_of_lt_of_le h.1 hb.2.2.2.1, fun j hj => by rw [hb.cell h.1 hp]; exact h.2 j hj⟩
def SrcC (w : World) (a : Option Addr) (N : Nat) (F : Nat → Value) : Prop := N = 0 ∨ ∃ b off, a = some ⟨b, off, none⟩ ∧ Cs w b off N F
theorem SrcC.below {w w' : World} {a : Option Addr} {N : Nat} {F : Nat → Value} (h : SrcC w a N F) (hb : Below w.heap.size w w') : SrcC w' a N F := by
  rcases h with h | ⟨b, off, h1, h2⟩
  · exact .inl h
  · exact .inr ⟨b, off, h1, h2.below hb h2.1⟩
def RowF (w : World) (b : Nat) (T : TypeId) (N m : Nat) (F : Nat → Value) : Prop := ∃ g, w.rowIs b T N g ∧ ∀ j, j < m → g j = F j
theorem RowF.lt {w : World} {b N m : Nat} {T : TypeId} {F : Nat → Value} (h : RowF w b T N m F) : b < w.heap.size := by obtain ⟨g, hr, _⟩ := h; exact hr.lt
theorem RowF.below {w w' : World} {B b N m : Nat} {T : TypeId} {F : Nat → Value} (hb : Below B w w') (hB : b < B) (h : RowF w b T N m F) : RowF w' b T N m F := by
  obtain ⟨g, hr, hg⟩ := h
  exact ⟨g, hr.of_block (hb.block b hB), hg⟩
theorem RowF.below' {w w' : World} {b N m : Nat} {T : TypeId} {F : Nat → Value} (hb : Below w.heap.size w w') (h : RowF w b T N m F) : RowF w' b T N m F := RowF.below hb h.lt h
theorem RowF.zero {w : World} {b N m : Nat} {T : TypeId} {F : Nat → Value} (h : RowF w b T N m F) (G : Nat → Value) : RowF w b T N 0 G := by
  obtain ⟨g, hr, hg⟩ := h
  exact ⟨g, hr, fun j hj => absurd hj (Nat.not_lt_zero _)⟩
theorem RowF.facts {w : World} {b N m : Nat} {T : TypeId} {F : Nat → Value} (h : RowF w b T N m F) (j : Nat) (hj : j < N) : (∃ v, w.cell? ⟨b, j, none⟩ = some v) ∧ w.frozen? ⟨b, j, none⟩ = false := by
  obtain ⟨g, hr, hg⟩ := h
  exact ⟨⟨_, hr.cell hj⟩, hr.frozen _⟩
theorem RowF.put {w : World} {b N m : Nat} {T : TypeId} {F : Nat → Value} (h : RowF w b T N m F) (m' : Nat) (hm : m' = m + 1) {v : Value} (hv : F m = v) : RowF (w.setCell ⟨b, m, none⟩ v) b T N m' F := by
  obtain ⟨g, hr, hg⟩ := h
  refine ⟨_, hr.set _ _, fun j hj => ?_⟩
  by_cases e : j = m
  · subst e; simp only [if_true]; exact hv.symm
  · simp only [if_neg e]; exact hg j (by omega)
theorem RowF.setO {w : World} {b N m : Nat} {T : TypeId} {F : Nat → Value} (h : RowF w b T N m F) {k : Nat} (hk : k ≠ b) (o : Nat) (u : Value) : RowF (w.setCell ⟨k, o, none⟩ u) b T N m F := by
  obtain ⟨g, hr, hg⟩ := h
  exact ⟨g, hr.setOther (fun e => hk e.symm) u, hg⟩
theorem RowF.cs {w : World} {b N m : Nat} {T : TypeId} {F : Nat → Value} (h : RowF w b T N m F) (hm : m ≤ N) : Cs w b 0 m F := by
  obtain ⟨g, hr, hg⟩ := h
  exact ⟨hr.lt, fun j hj => by rw [Nat.zero_add, hr.cell (by omega), hg j hj]⟩
theorem RowF.eqm {w : World} {b N m m' : Nat} {T : TypeId} {F : Nat → Value} (h : RowF w b T N m F) (e : m = m') : RowF w b T N m' F := e ▸ h
theorem ownF_row {w : World} {base : Nat} {T : TypeId} {s g n cap : Nat} {xs : List Value} (F : Nat → Value) (h : w.ownsRow base T s (.slice (some ⟨g, 0, none⟩) n cap) n xs) : base ≤ g ∧ n ≤ cap ∧ cap ≤ maxLen ∧ RowF w g T (cap * s) 0 F := by
  rcases h.2 with ⟨h, _⟩ | ⟨g', cap', cur, he, h2, h3, h4, h5, h6, h7⟩
  · simp at h
  · simp at he
    obtain ⟨rfl, rfl⟩ := he
    exact ⟨h2, h4, h5, _, ⟨cur, h3, by omega, fun i hi => by rw [Array.getElem?_eq_getElem (by omega)]; exact congrArg some (by rw [Array.getD_eq_getD_getElem?, Array.getElem?_eq_getElem (by omega)]; rfl : cur[i]'(by omega) = cur.getD i undef)⟩, fun j hj => absurd hj (Nat.not_lt_zero _)⟩
theorem ownF_src {w : World} {base : Nat} {T : TypeId} {s n : Nat} {v : Value} {F : Nat → Value} (h : w.ownsRow base T s v n ((List.range (n * s)).map F)) :
    ∃ a c, v = .slice a n c ∧ n ≤ c ∧ c ≤ maxLen ∧ SrcC w a (n * s) F := by
  rcases h.2 with ⟨rfl, h0⟩ | ⟨g, cap, cur, rfl, hb, hg, hc, hm, hs, ht⟩
  · exact ⟨none, 0, by rw [h0], by omega, by simp [maxLen], .inl (by rw [h0, Nat.zero_mul])⟩
  · refine ⟨_, cap, rfl, hc, hm, .inr ⟨g, 0, rfl, (Array.getElem?_eq_some_iff.1 hg).1, fun i hi => ?_⟩⟩
    have hu : ((List.range (n * s)).map F)[i]? = some (F i) := by simp [hi]
    rw [← ht, List.getElem?_take, if_pos (by omega)] at hu
    simp [World.cell?, hg]
    simpa using hu
theorem mapF_add (F : Nat → Value) (n s : Nat) : (List.range ((n + 1) * s)).map F = (List.range (n * s)).map F ++ (List.range s).map fun j => F (n * s + j) := by
  rw [Nat.succ_mul, List.range_add, List.map_append, List.map_map]
  rfl
end Go.Proofs.YtgempaoamamaeaaGreat
namespace Go.Proofs.YtgempaoamamaeaaGreat
open Go.RowKit
set_option linter.unusedVariables false
set_option maxHeartbeats 400000 in
theorem eqIval_same (lo hi : Int) (w : World) :
    Calls Tryz.prog 52 #[.agg #[.int .i64 lo, .int .i64 hi], .agg #[.int .i64 lo, .int .i64 hi]] w fun e w' => e = .returned (.bool true) ∧ Below w.heap.size w w' := by
  go_enter Tryz.func52, Tryz.ntmps52
  go_wp2
  go_ret
  exact ⟨rfl, by repeat (first | exact Below.refl _ _ | refine Below.drew ?_ | refine Below.alloc ?_ (by first | (simp; done) | (simp; omega) | omega) _ | refine Below.setCell ?_ (by first | (simp; done) | (simp; omega) | omega) _ | refine Below.trans ?_ (Below.mono (by assumption) (by first | (simp; done) | (simp; omega) | omega)))⟩
end Go.Proofs.YtgempaoamamaeaaGreat
namespace Go.Proofs.YtgempaoamamaeaaGreat
open Go.RowKit
set_option linter.unusedVariables false
def okD (n d : Int) : Bool := decide (1 ≤ d ∧ d ≤ 1000000 ∧ 0 ≤ n ∧ 2 * n ≤ d)
def okT (t : Int) : Bool := decide (0 ≤ t ∧ t ≤ 1000000000000)
set_option maxHeartbeats 400000 in
theorem specDriftOk_any (n d : Int) (w : World) :
    Calls Tryz.prog 102 #[.agg #[.int .i64 n, .int .i64 d]] w fun e w' => e = .returned (.bool (okD n d)) ∧ Below w.heap.size w w' := by
  go_enter Tryz.func102, Tryz.ntmps102
  go_wp2
  all_goals go_ret
  all_goals exact ⟨ret_bool (by rw [Bool.eq_iff_iff]; simp [okD]; try omega), by repeat (first | exact Below.refl _ _ | refine Below.drew ?_ | refine Below.alloc ?_ (by first | (simp; done) | (simp; omega) | omega) _ | refine Below.setCell ?_ (by first | (simp; done) | (simp; omega) | omega) _ | refine Below.trans ?_ (Below.mono (by assumption) (by first | (simp; done) | (simp; omega) | omega)))⟩
set_option maxHeartbeats 400000 in
theorem okd_any (n d : Int) (w : World) :
    Calls Tryz.prog 132 #[.agg #[.int .i64 n, .int .i64 d]] w fun e w' => e = .returned (.bool (okD n d)) ∧ Below w.heap.size w w' := by
  have hd : d.tdiv 2 = if 0 ≤ d then d / 2 else -(-d / 2) := by
    split
    · exact Int.tdiv_eq_ediv_of_nonneg ‹_›
    · have h := Int.neg_tdiv (a := -d) (b := 2)
      have k : (-d).tdiv 2 = -d / 2 := Int.tdiv_eq_ediv_of_nonneg (by omega)
      rw [Int.neg_neg, k] at h
      exact h
  go_enter Tryz.func132, Tryz.ntmps132
  go_wp2
  all_goals go_ret
  all_goals exact ⟨ret_bool (by rw [Bool.eq_iff_iff]; simp [okD]; try (split at hd <;> omega)), by repeat (first | exact Below.refl _ _ | refine Below.drew ?_ | refine Below.alloc ?_ (by first | (simp; done) | (simp; omega) | omega) _ | refine Below.setCell ?_ (by first | (simp; done) | (simp; omega) | omega) _ | refine Below.trans ?_ (Below.mono (by assumption) (by first | (simp; done) | (simp; omega) | omega)))⟩
set_option maxHeartbeats 400000 in
theorem toDrift_any (n d : Int) (w : World) :
    Calls Tryz.prog 34 #[.agg #[.int .i64 n, .int .i64 d]] w fun e w' => e = .returned (.agg #[.int .i64 n, .int .i64 d]) ∧ Below w.heap.size w w' := by
  go_enter Tryz.func34, Tryz.ntmps34
  go_wp2
  exact bodyPost_ret (v := .agg #[.int .i64 n, .int .i64 d]) (by simp [results, Tryz.results34, go_sem]) rfl ⟨rfl, by repeat (first | exact Below.refl _ _ | refine Below.drew ?_ | refine Below.alloc ?_ (by first | (simp; done) | (simp; omega) | omega) _ | refine Below.setCell ?_ (by first | (simp; done) | (simp; omega) | omega) _ | refine Below.trans ?_ (Below.mono (by assumption) (by first | (simp; done) | (simp; omega) | omega)))⟩
set_option maxHeartbeats 400000 in
theorem eqDrift_same (n d : Int) (w : World) :
    Calls Tryz.prog 53 #[.agg #[.int .i64 n, .int .i64 d], .agg #[.int .i64 n, .int .i64 d]] w fun e w' => e = .returned (.bool true) ∧ Below w.heap.size w w' := by
  go_enter Tryz.func53, Tryz.ntmps53
  go_wp2
  go_ret
  exact ⟨rfl, by repeat (first | exact Below.refl _ _ | refine Below.drew ?_ | refine Below.alloc ?_ (by first | (simp; done) | (simp; omega) | omega) _ | refine Below.setCell ?_ (by first | (simp; done) | (simp; omega) | omega) _ | refine Below.trans ?_ (Below.mono (by assumption) (by first | (simp; done) | (simp; omega) | omega)))⟩
set_option maxHeartbeats 400000 in
theorem isTime_any (t : Int) (w : World) :
    Calls Tryz.prog 131 #[.int .i64 t] w fun e w' => e = .returned (.bool (okT t)) ∧ w = w' := by
  go_enter Tryz.func131, Tryz.ntmps131
  go_wp2
  all_goals go_ret
  all_goals exact ⟨ret_bool (by rw [Bool.eq_iff_iff]; simp [okT]; try omega), rfl⟩
set_option maxHeartbeats 400000 in
theorem l2Time_any (t : Int) (w : World) :
    Calls Tryz.prog 80 #[.int .i64 t] w fun e w' => e = .returned (.bool (okT t)) ∧ w = w' := by
  go_enter Tryz.func80, Tryz.ntmps80
  go_wp2
  all_goals go_ret
  all_goals exact ⟨ret_bool (by rw [Bool.eq_iff_iff]; simp [okT]; try omega), rfl⟩
end Go.Proofs.YtgempaoamamaeaaGreat
namespace Go.Proofs.YtgempaoamamaeaaGreat
open Go.RowKit
set_option linter.unusedVariables false
set_option maxHeartbeats 400000 in
theorem l1In_any (x l h : Int) (w : World) :
    Calls Tryz.prog 78 #[.int .i64 x, .int .i64 l, .int .i64 h] w fun e w' => e = .returned (.bool (decide (l ≤ x ∧ x ≤ h))) ∧ w = w' := by
  go_enter Tryz.func78, Tryz.ntmps78
  go_wp2
  all_goals go_ret
  all_goals exact ⟨ret_bool (by rw [Bool.eq_iff_iff]; simp; try omega), rfl⟩
end Go.Proofs.YtgempaoamamaeaaGreat
namespace Go.Proofs.YtgempaoamamaeaaGreat
open Go.RowKit
set_option linter.unusedVariables false
def nodB (n : Int) : Bool := decide (0 ≤ n ∧ n ≤ 7)
set_option maxHeartbeats 400000 in
theorem isNode_any (n : Int) (w : World) :
    Calls Tryz.prog 43 #[.int .i64 n] w fun e w' => e = .returned (.bool (nodB n)) ∧ w = w' := by
  go_enter Tryz.func43, Tryz.ntmps43
  go_wp2
  all_goals go_ret
  all_goals exact ⟨ret_bool (by rw [Bool.eq_iff_iff]; simp [nodB]; try omega), rfl⟩
set_option maxHeartbeats 400000 in
theorem l4Node_any (n : Int) (w : World) :
    Calls Tryz.prog 30 #[.int .i64 n] w fun e w' => e = .returned (.bool (nodB n)) ∧ w = w' := by
  go_enter Tryz.func30, Tryz.ntmps30
  go_wp2_with (first | (go_at_call 78; refine (l1In_any _ _ _ _).mono ?_; rintro e w' ⟨rfl, rfl⟩))
  go_ret
  exact ⟨ret_bool (by simp [nodB]), rfl⟩
def Box8 (w : World) (j : Nat) (k fr tuu no lo hi sl : Int) (s : ByteArray) : Prop := j < w.heap.size ∧ w.cell? ⟨j, 0, none⟩ = some (.int .i64 k) ∧ w.cell? ⟨j, 1, none⟩ = some (.int .i64 fr) ∧ w.cell? ⟨j, 2, none⟩ = some (.int .i64 tuu) ∧ w.cell? ⟨j, 3, none⟩ = some (.int .i64 no) ∧ w.cell? ⟨j, 4, none⟩ = some (.int .i64 lo) ∧ w.cell? ⟨j, 5, none⟩ = some (.int .i64 hi) ∧ w.cell? ⟨j, 6, none⟩ = some (.int .i64 sl) ∧ w.cell? ⟨j, 7, none⟩ = some (.string s)
theorem Box8.belowB {j B : Nat} {w w' : World} {k fr tuu no lo hi sl : Int} {s : ByteArray} (h : Box8 w j k fr tuu no lo hi sl s) (hw : Below B w w') (hk : j < B) : Box8 w' j k fr tuu no lo hi sl s := by
  obtain ⟨h0, h1, h2, h3, h4, h5, h6, h7, h8⟩ := h
  exact ⟨Nat.lt_of_lt_of_le h0 hw.size, by rw [hw.cell (p := ⟨j, 0, none⟩) hk]; exact h1, by rw [hw.cell (p := ⟨j, 1, none⟩) hk]; exact h2, by rw [hw.cell (p := ⟨j, 2, none⟩) hk]; exact h3, by rw [hw.cell (p := ⟨j, 3, none⟩) hk]; exact h4, by rw [hw.cell (p := ⟨j, 4, none⟩) hk]; exact h5, by rw [hw.cell (p := ⟨j, 5, none⟩) hk]; exact h6, by rw [hw.cell (p := ⟨j, 6, none⟩) hk]; exact h7, by rw [hw.cell (p := ⟨j, 7, none⟩) hk]; exact h8⟩
theorem Box8.below {j : Nat} {w w' : World} {k fr tuu no lo hi sl : Int} {s : ByteArray} (h : Box8 w j k fr tuu no lo hi sl s) (hw : Below w.heap.size w w') : Box8 w' j k fr tuu no lo hi sl s := h.belowB hw h.1
theorem Box8.new (w : World) (k fr tuu no lo hi sl : Int) (s : ByteArray) (T : TypeId) : Box8 (w.alloc (.cells #[.int .i64 k, .int .i64 fr, .int .i64 tuu, .int .i64 no, .int .i64 lo, .int .i64 hi, .int .i64 sl, .string s] T)) w.heap.size k fr tuu no lo hi sl s := ⟨by simp, by simp, by simp, by simp, by simp, by simp, by simp, by simp, by simp⟩
end Go.Proofs.YtgempaoamamaeaaGreat
namespace Go.Proofs.YtgempaoamamaeaaGreat
open Go.RowKit
set_option linter.unusedVariables false
def tmB (t : Int) : Bool := decide (0 ≤ t ∧ t ≤ 1000000000000)
set_option maxHeartbeats 400000 in
theorem isTime_any5 (n : Int) (w : World) :
    Calls Tryz.prog 131 #[.int .i64 n] w fun e w' => e = .returned (.bool (tmB n)) ∧ w = w' := by
  go_enter Tryz.func131, Tryz.ntmps131
  go_wp2
  all_goals go_ret
  all_goals exact ⟨ret_bool (by rw [Bool.eq_iff_iff]; simp [tmB]; try omega), rfl⟩
set_option maxHeartbeats 400000 in
theorem l2Time_any5 (n : Int) (w : World) :
    Calls Tryz.prog 80 #[.int .i64 n] w fun e w' => e = .returned (.bool (tmB n)) ∧ w = w' := by
  go_enter Tryz.func80, Tryz.ntmps80
  go_wp2_with (first | (go_at_call 78; refine (l1In_any _ _ _ _).mono ?_; rintro e w' ⟨rfl, rfl⟩))
  go_ret
  exact ⟨ret_bool (by simp [tmB]), rfl⟩
def Box5 (w : World) (j : Nat) (x0 x1 x2 : Int) (x3 : ByteArray) (x4 : Int) : Prop := j < w.heap.size ∧ w.cell? ⟨j, 0, none⟩ = some (.int .i64 x0) ∧ w.cell? ⟨j, 1, none⟩ = some (.int .i64 x1) ∧ w.cell? ⟨j, 2, none⟩ = some (.int .i64 x2) ∧ w.cell? ⟨j, 3, none⟩ = some (.string x3) ∧ w.cell? ⟨j, 4, none⟩ = some (.int .i64 x4)
theorem Box5.belowB {j B : Nat} {w w' : World} {x0 x1 x2 : Int} {x3 : ByteArray} {x4 : Int} (h : Box5 w j x0 x1 x2 x3 x4) (hw : Below B w w') (hk : j < B) : Box5 w' j x0 x1 x2 x3 x4 := by
  obtain ⟨h0, h1, h2, h3, h4, h5⟩ := h
  exact ⟨Nat.lt_of_lt_of_le h0 hw.size, by rw [hw.cell (p := ⟨j, 0, none⟩) hk]; exact h1, by rw [hw.cell (p := ⟨j, 1, none⟩) hk]; exact h2, by rw [hw.cell (p := ⟨j, 2, none⟩) hk]; exact h3, by rw [hw.cell (p := ⟨j, 3, none⟩) hk]; exact h4, by rw [hw.cell (p := ⟨j, 4, none⟩) hk]; exact h5⟩
theorem Box5.below {j : Nat} {w w' : World} {x0 x1 x2 : Int} {x3 : ByteArray} {x4 : Int} (h : Box5 w j x0 x1 x2 x3 x4) (hw : Below w.heap.size w w') : Box5 w' j x0 x1 x2 x3 x4 := h.belowB hw h.1
theorem Box5.new (w : World) (x0 x1 x2 : Int) (x3 : ByteArray) (x4 : Int) (T : TypeId) : Box5 (w.alloc (.cells #[.int .i64 x0, .int .i64 x1, .int .i64 x2, .string x3, .int .i64 x4] T)) w.heap.size x0 x1 x2 x3 x4 := ⟨by simp, by simp, by simp, by simp, by simp, by simp⟩
end Go.Proofs.YtgempaoamamaeaaGreat
namespace Go.Proofs.YtgempaoamamaeaaGreat
open Go.RowKit
set_option linter.unusedVariables false
abbrev SlT : Type := Int × Int
def zSl : SlT := (0, 0)
def lnB (l : Int) : Bool := decide (1 ≤ l ∧ l ≤ 1000000)
def slB (o l : Int) : Bool := nodB o && lnB l
def slA (M : Nat → SlT) : Nat → Bool
  | 0 => true
  | j + 1 => slA M j && slB (M j).1 (M j).2
def gpB (g : Int) : Bool := decide (0 ≤ g ∧ g ≤ 100000)
def cnB (n : Nat) : Bool := decide (1 ≤ (n : Int) ∧ (n : Int) ≤ 12)
def plB (s g : Int) (M : Nat → SlT) (n : Nat) : Bool := okT s && (gpB g && (cnB n && slA M n))
theorem slA_no {M : Nat → SlT} {k n : Nat} (h : slA M (k + 1) = false) (hk : k < n) : slA M n = false := by
  induction n with
  | zero => omega
  | succ n ih =>
    by_cases e : k = n
    · subst e; exact h
    · rw [slA, ih (by omega)]; rfl
end Go.Proofs.YtgempaoamamaeaaGreat
namespace Go.Proofs.YtgempaoamamaeaaGreat
open Go.RowKit
set_option linter.unusedVariables false
def Bx (w : World) (k : Nat) (x y : Int) : Prop := k < w.heap.size ∧ w.cell? ⟨k, 0, none⟩ = some (.int .i64 x) ∧ w.cell? ⟨k, 1, none⟩ = some (.int .i64 y) ∧ w.frozen? ⟨k, 0, none⟩ = false ∧ w.frozen? ⟨k, 1, none⟩ = false
theorem Bx.belowB {k B : Nat} {w w' : World} {x y : Int} (h : Bx w k x y) (hw : Below B w w') (hk : k < B) : Bx w' k x y :=
  ⟨Nat.lt_of_lt_of_le h.1 hw.size, by rw [hw.cell (p := ⟨k, 0, none⟩) hk]; exact h.2.1, by rw [hw.cell (p := ⟨k, 1, none⟩) hk]; exact h.2.2.1, by rw [hw.frozen (p := ⟨k, 0, none⟩) hk]; exact h.2.2.2.1, by rw [hw.frozen (p := ⟨k, 1, none⟩) hk]; exact h.2.2.2.2⟩
theorem Bx.below {k : Nat} {w w' : World} {x y : Int} (h : Bx w k x y) (hw : Below w.heap.size w w') : Bx w' k x y := h.belowB hw h.1
theorem Bx.alloc {k : Nat} {w : World} {x y : Int} (h : Bx w k x y) (o : Obj) : Bx (w.alloc o) k x y := h.below ((Below.refl _ _).alloc (Nat.le_refl _) _)
theorem Bx.new (w : World) (x y : Int) (T : TypeId) : Bx (w.alloc (.cells #[.int .i64 x, .int .i64 y] T)) w.heap.size x y := ⟨by simp, by simp, by simp, by simp, by simp⟩
theorem Bx.setO {k j : Nat} {w : World} {x y : Int} (h : Bx w k x y) (hk : j ≠ k) (o : Nat) (u : Value) : Bx (w.setCell ⟨j, o, none⟩ u) k x y := by
  have hne : ∀ q, (⟨j, o, none⟩ : Addr) ≠ ⟨k, q, none⟩ := fun q e => hk (congrArg Addr.block e)
  exact ⟨by simpa using h.1, by rw [World.cell?_setCell_other _ _ _ _ (hne _)]; exact h.2.1, by rw [World.cell?_setCell_other _ _ _ _ (hne _)]; exact h.2.2.1, by simpa using h.2.2.2.1, by simpa using h.2.2.2.2⟩
theorem Bx.drew {k : Nat} {w : World} {x y : Int} (h : Bx w k x y) : Bx w.drew k x y := h
theorem Below.alc (w : World) (o : Obj) : Below w.heap.size w (w.alloc o) := (Below.refl _ _).alloc (Nat.le_refl _) _
def Box4 (w : World) (k : Nat) (a b c d : Int) : Prop := k < w.heap.size ∧ w.cell? ⟨k, 0, none⟩ = some (.int .i64 a) ∧ w.cell? ⟨k, 1, none⟩ = some (.int .i64 b) ∧ w.cell? ⟨k, 2, none⟩ = some (.int .i64 c) ∧ w.cell? ⟨k, 3, none⟩ = some (.int .i64 d) ∧ w.frozen? ⟨k, 0, none⟩ = false ∧ w.frozen? ⟨k, 1, none⟩ = false ∧ w.frozen? ⟨k, 2, none⟩ = false ∧ w.frozen? ⟨k, 3, none⟩ = false
theorem Box4.belowB {k B : Nat} {w w' : World} {a b c d : Int} (h : Box4 w k a b c d) (hw : Below B w w') (hk : k < B) : Box4 w' k a b c d := by
  obtain ⟨h0, h1, h2, h3, h4, f1, f2, f3, f4⟩ := h
  exact ⟨Nat.lt_of_lt_of_le h0 hw.size, by rw [hw.cell (p := ⟨k, 0, none⟩) hk]; exact h1, by rw [hw.cell (p := ⟨k, 1, none⟩) hk]; exact h2, by rw [hw.cell (p := ⟨k, 2, none⟩) hk]; exact h3, by rw [hw.cell (p := ⟨k, 3, none⟩) hk]; exact h4, by rw [hw.frozen (p := ⟨k, 0, none⟩) hk]; exact f1, by rw [hw.frozen (p := ⟨k, 1, none⟩) hk]; exact f2, by rw [hw.frozen (p := ⟨k, 2, none⟩) hk]; exact f3, by rw [hw.frozen (p := ⟨k, 3, none⟩) hk]; exact f4⟩
theorem Box4.below {k : Nat} {w w' : World} {a b c d : Int} (h : Box4 w k a b c d) (hw : Below w.heap.size w w') : Box4 w' k a b c d := h.belowB hw h.1
theorem Box4.alloc {k : Nat} {w : World} {a b c d : Int} (h : Box4 w k a b c d) (o : Obj) : Box4 (w.alloc o) k a b c d := h.below ((Below.refl _ _).alloc (Nat.le_refl _) _)
theorem Box4.new (w : World) (a b c d : Int) (T : TypeId) : Box4 (w.alloc (.cells #[.int .i64 a, .int .i64 b, .int .i64 c, .int .i64 d] T)) w.heap.size a b c d := ⟨by simp, by simp, by simp, by simp, by simp, by simp, by simp, by simp, by simp⟩
theorem Box4.drew {k : Nat} {w : World} {a b c d : Int} (h : Box4 w k a b c d) : Box4 w.drew k a b c d := h
theorem Box4.setO {k j : Nat} {w : World} {a b c d : Int} (h : Box4 w k a b c d) (hk : j ≠ k) (o : Nat) (u : Value) : Box4 (w.setCell ⟨j, o, none⟩ u) k a b c d := by
  have hne : ∀ q, (⟨j, o, none⟩ : Addr) ≠ ⟨k, q, none⟩ := fun q e => hk (congrArg Addr.block e)
  obtain ⟨h0, h1, h2, h3, h4, f1, f2, f3, f4⟩ := h
  exact ⟨by simpa using h0, by rw [World.cell?_setCell_other _ _ _ _ (hne _)]; exact h1, by rw [World.cell?_setCell_other _ _ _ _ (hne _)]; exact h2, by rw [World.cell?_setCell_other _ _ _ _ (hne _)]; exact h3, by rw [World.cell?_setCell_other _ _ _ _ (hne _)]; exact h4, by simpa using f1, by simpa using f2, by simpa using f3, by simpa using f4⟩
def set4 (w : World) (k : Nat) (a b c d : Int) : World := (((w.setCell ⟨k, 0, none⟩ (.int .i64 a)).setCell ⟨k, 1, none⟩ (.int .i64 b)).setCell ⟨k, 2, none⟩ (.int .i64 c)).setCell ⟨k, 3, none⟩ (.int .i64 d)
theorem Below.set4 {B j : Nat} {w w' : World} (h : Below B w w') (hj : B ≤ j) (a b c d : Int) : Below B w (set4 w' j a b c d) := (((h.setCell hj _).setCell hj _).setCell hj _).setCell hj _
end Go.Proofs.YtgempaoamamaeaaGreat
namespace Go.Proofs.YtgempaoamamaeaaGreat
open Go.RowKit
set_option linter.unusedVariables false
def BoxL (w : World) (k : Nat) (a : Bool) (b c d : Int) : Prop := k < w.heap.size ∧ w.cell? ⟨k, 0, none⟩ = some (.bool a) ∧ w.cell? ⟨k, 1, none⟩ = some (.int .i64 b) ∧ w.cell? ⟨k, 2, none⟩ = some (.int .i64 c) ∧ w.cell? ⟨k, 3, none⟩ = some (.int .i64 d) ∧ w.frozen? ⟨k, 0, none⟩ = false ∧ w.frozen? ⟨k, 1, none⟩ = false ∧ w.frozen? ⟨k, 2, none⟩ = false ∧ w.frozen? ⟨k, 3, none⟩ = false
theorem BoxL.belowB {k B : Nat} {w w' : World} {a : Bool} {b c d : Int} (h : BoxL w k a b c d) (hw : Below B w w') (hk : k < B) : BoxL w' k a b c d := by
  obtain ⟨h0, h1, h2, h3, h4, f1, f2, f3, f4⟩ := h
  exact ⟨Nat.lt_of_lt_of_le h0 hw.size, by rw [hw.cell (p := ⟨k, 0, none⟩) hk]; exact h1, by rw [hw.cell (p := ⟨k, 1, none⟩) hk]; exact h2, by rw [hw.cell (p := ⟨k, 2, none⟩) hk]; exact h3, by rw [hw.cell (p := ⟨k, 3, none⟩) hk]; exact h4, by rw [hw.frozen (p := ⟨k, 0, none⟩) hk]; exact f1, by rw [hw.frozen (p := ⟨k, 1, none⟩) hk]; exact f2, by rw [hw.frozen (p := ⟨k, 2, none⟩) hk]; exact f3, by rw [hw.frozen (p := ⟨k, 3, none⟩) hk]; exact f4⟩
theorem BoxL.below {k : Nat} {w w' : World} {a : Bool} {b c d : Int} (h : BoxL w k a b c d) (hw : Below w.heap.size w w') : BoxL w' k a b c d := h.belowB hw h.1
theorem BoxL.alloc {k : Nat} {w : World} {a : Bool} {b c d : Int} (h : BoxL w k a b c d) (o : Obj) : BoxL (w.alloc o) k a b c d := h.below ((Below.refl _ _).alloc (Nat.le_refl _) _)
theorem BoxL.new (w : World) (a : Bool) (b c d : Int) (T : TypeId) : BoxL (w.alloc (.cells #[.bool a, .int .i64 b, .int .i64 c, .int .i64 d] T)) w.heap.size a b c d := ⟨by simp, by simp, by simp, by simp, by simp, by simp, by simp, by simp, by simp⟩
theorem BoxL.drew {k : Nat} {w : World} {a : Bool} {b c d : Int} (h : BoxL w k a b c d) : BoxL w.drew k a b c d := h
theorem BoxL.setO {k j : Nat} {w : World} {a : Bool} {b c d : Int} (h : BoxL w k a b c d) (hk : j ≠ k) (o : Nat) (u : Value) : BoxL (w.setCell ⟨j, o, none⟩ u) k a b c d := by
  have hne : ∀ q, (⟨j, o, none⟩ : Addr) ≠ ⟨k, q, none⟩ := fun q e => hk (congrArg Addr.block e)
  obtain ⟨h0, h1, h2, h3, h4, f1, f2, f3, f4⟩ := h
  exact ⟨by simpa using h0, by rw [World.cell?_setCell_other _ _ _ _ (hne _)]; exact h1, by rw [World.cell?_setCell_other _ _ _ _ (hne _)]; exact h2, by rw [World.cell?_setCell_other _ _ _ _ (hne _)]; exact h3, by rw [World.cell?_setCell_other _ _ _ _ (hne _)]; exact h4, by simpa using f1, by simpa using f2, by simpa using f3, by simpa using f4⟩
def okL (kn : Bool) (lo hi a : Int) : Bool := match kn with | true => okI lo hi && okT a | false => decide (lo = 0 ∧ hi = 0 ∧ a = 0)
set_option maxHeartbeats 1000000 in
theorem specLocalOk_any (kn : Bool) (lo hi a : Int) (w : World) :
    Calls Tryz.prog 101 #[.agg #[.bool kn, .int .i64 lo, .int .i64 hi, .int .i64 a]] w fun e w' => e = .returned (.bool (okL kn lo hi a)) ∧ Below w.heap.size w w' := by
  cases kn
  · go_enter Tryz.func101, Tryz.ntmps101
    go_wp2
    all_goals go_ret
    all_goals exact ⟨ret_bool (by rw [Bool.eq_iff_iff]; simp [okL]; try omega), by repeat (first | exact Below.refl _ _ | refine Below.drew ?_ | refine Below.alloc ?_ (by first | (simp; done) | (simp; omega) | omega) _ | refine Below.setCell ?_ (by first | (simp; done) | (simp; omega) | omega) _ | refine Below.trans ?_ (Below.mono (by assumption) (by first | (simp; done) | (simp; omega) | omega)))⟩
  cases h1 : okI lo hi <;> cases h2 : okT a
  all_goals
    go_enter Tryz.func101, Tryz.ntmps101
    go_wp2_with (first | (go_at_call 106; refine (specIvalOk_any _ _ _).mono ?_; rintro e w' ⟨rfl, hb⟩; obtain ⟨hc, hf⟩ := bcell hb; (first | have hB := Below.trans (Below.trans hB (by repeat (first | exact Below.refl _ _ | refine Below.drew ?_ | refine Below.alloc ?_ (by first | (simp; done) | (simp; omega) | omega) _ | refine Below.setCell ?_ (by first | (simp; done) | (simp; omega) | omega) _ | refine Below.trans ?_ (Below.mono (by assumption) (by first | (simp; done) | (simp; omega) | omega))))) (Below.mono hb (by first | (simp; done) | (simp; omega) | omega)) | have hB := hb); obtain ⟨hC, hF⟩ := bcell hB; have hz := hb.size; (try simp at hz); (try (have hz0 : w.heap.size < w'.heap.size := by omega)); (try (have hz1 : w.heap.size + 1 < w'.heap.size := by omega)); (try (have hz2 : w.heap.size + 1 + 1 < w'.heap.size := by omega)); (try (have hz3 : w.heap.size + 1 + 1 + 1 < w'.heap.size := by omega))) | (go_at_call 80; refine (l2Time_any _ _).mono ?_; rintro e w' ⟨rfl, rfl⟩))
    go_ret
    exact ⟨ret_bool (by simp [okL, *]), by repeat (first | exact Below.refl _ _ | refine Below.drew ?_ | refine Below.alloc ?_ (by first | (simp; done) | (simp; omega) | omega) _ | refine Below.setCell ?_ (by first | (simp; done) | (simp; omega) | omega) _ | refine Below.trans ?_ (Below.mono (by assumption) (by first | (simp; done) | (simp; omega) | omega)))⟩
set_option maxHeartbeats 1000000 in
theorem toLocal_any (kn : Bool) (lo hi a : Int) (w : World) :
    Calls Tryz.prog 37 #[.agg #[.bool kn, .int .i64 lo, .int .i64 hi, .int .i64 a]] w fun e w' => e = .returned (.agg #[.bool kn, .int .i64 lo, .int .i64 hi, .int .i64 a]) ∧ Below w.heap.size w w' := by
  have P0 := ((BoxL.new w kn lo hi a 34).alloc (.cells #[.bool false, .int .i64 0, .int .i64 0, .int .i64 0] 49)).alloc (.cells #[.bool kn, .int .i64 0, .int .i64 0, .int .i64 0] 49)
  have P1 := (BoxL.new (w.alloc (.cells #[.bool kn, .int .i64 lo, .int .i64 hi, .int .i64 a] 34)) false 0 0 0 49).alloc (.cells #[.bool kn, .int .i64 0, .int .i64 0, .int .i64 0] 49)
  have P2 := BoxL.new ((w.alloc (.cells #[.bool kn, .int .i64 lo, .int .i64 hi, .int .i64 a] 34)).alloc (.cells #[.bool false, .int .i64 0, .int .i64 0, .int .i64 0] 49)) kn 0 0 0 49
  simp only [World.size_alloc] at P1 P2
  go_enter Tryz.func37, Tryz.ntmps37
  go_wp2_with fail
  refine (toIval_any _ _ _).mono ?_
  rintro e w1 ⟨rfl, hb⟩
  have hw1 : Below w.heap.size w w1 := by repeat (first | exact Below.refl _ _ | refine Below.drew ?_ | refine Below.alloc ?_ (by first | (simp; done) | (simp; omega) | omega) _ | refine Below.setCell ?_ (by first | (simp; done) | (simp; omega) | omega) _ | refine Below.trans ?_ (Below.mono (by assumption) (by first | (simp; done) | (simp; omega) | omega)))
  have hs : w.heap.size + 2 < w1.heap.size := by have := hb.size; simp at this; omega
  have Q0 := P0.below hb
  have Q1 := P1.below hb
  have Q2 := P2.below hb
  clear P0 P1 P2 hb
  obtain ⟨a0, a1, a2, a3, a4, a5, a6, a7, a8⟩ := Q0
  obtain ⟨b0, b1, b2, b3, b4, b5, b6, b7, b8⟩ := Q1
  obtain ⟨c0, c1, c2, c3, c4, c5, c6, c7, c8⟩ := Q2
  go_wp2_with fail
  exact bodyPost_ret (v := .agg #[.bool kn, .int .i64 lo, .int .i64 hi, .int .i64 a]) (by simp (maxDischargeDepth := 6) [results, Tryz.results37, go_sem, *]) rfl ⟨rfl, by repeat (first | refine Below.setCell ?_ (by first | (simp; done) | (simp; omega) | omega) _ | exact hw1)⟩
set_option maxHeartbeats 1000000 in
theorem eqLocal_same (kn : Bool) (lo hi a : Int) (w : World) :
    Calls Tryz.prog 47 #[.agg #[.bool kn, .int .i64 lo, .int .i64 hi, .int .i64 a], .agg #[.bool kn, .int .i64 lo, .int .i64 hi, .int .i64 a]] w fun e w' => e = .returned (.bool true) ∧ Below w.heap.size w w' := by
  have P0 := (BoxL.new w kn lo hi a 49).alloc (.cells #[.bool kn, .int .i64 lo, .int .i64 hi, .int .i64 a] 49)
  have P1 := BoxL.new (w.alloc (.cells #[.bool kn, .int .i64 lo, .int .i64 hi, .int .i64 a] 49)) kn lo hi a 49
  have B0 : Below w.heap.size w ((w.alloc (.cells #[.bool kn, .int .i64 lo, .int .i64 hi, .int .i64 a] 49)).alloc (.cells #[.bool kn, .int .i64 lo, .int .i64 hi, .int .i64 a] 49)) := (Below.alc _ _).alloc (by simp) _
  simp only [World.size_alloc] at P1
  go_enter Tryz.func47, Tryz.ntmps47
  go_wp2_with fail
  refine (eqIval_same _ _ _).mono ?_
  rintro e w1 ⟨rfl, hb⟩
  have B := B0.trans (hb.mono B0.size)
  obtain ⟨a0, a1, a2, a3, a4, a5, a6, a7, a8⟩ := P0.below hb
  obtain ⟨b0, b1, b2, b3, b4, b5, b6, b7, b8⟩ := P1.below hb
  clear P0 P1 hb
  go_wp2
  go_ret
  exact ⟨rfl, B⟩
end Go.Proofs.YtgempaoamamaeaaGreat
