/- The cursor of the draws: what l1Byte, l1Below, l1Once and l1PickInt leave. Contracts of the functions of chapter 1 (intervals) in the specification and in the program, and the walks of its first exact laws. Number forms: what the bytes of a number are; rows of bytes in memory. Rows of structs in memory; the text of a mark. Contracts of the helpers of chapter 1 (told intervals, least and greatest, meet and join). Rows of peers: what the laws make of them, and whether two are the same. Contracts of the small functions of chapter 2 (drift) in the specification and in the program. Contracts of Fold and Unfold, and the walks of their exact laws. Contracts of MsgOk. Peers that are right, ascending; the contract of impl.PeersOk. What the laws keep; rows of numbers, of intervals and of peers, told by lists. Boxes that the laws keep. AppOk and AppRead in the specification. Flights: contracts of what asks whether one is right; what the laws make of one. NonceOf and NonceParts: contracts, and the walks of their exact laws. -/
import Derived.Test.YtlllbahfjihepaaRows
import Derived.WalkKit
import Derived.WalkSpells
import Derived.WalkLawsBesides
import Derived.Deep.QuietTactic
import Derived.BigQuiet
import Derived.Deep.OwnRows
import Derived.Deep.RegionHeld
import Derived.Laws.BytesArg
import Derived.Deep.RegionHeld3
import Derived.Deep.DeepCutAuto
namespace Go.Proofs.Ytlllbahfjihepaa
open Go.RowKit
set_option linter.unusedVariables false
def But (p : Nat) (w w' : World) : Prop := w'.os = w.os ∧ w'.tape = w.tape ∧ w'.output = w.output ∧ w.heap.size ≤ w'.heap.size ∧ ∀ k, k < w.heap.size → k ≠ p → w'.heap[k]? = w.heap[k]?
theorem But.refl (p : Nat) (w : World) : But p w w := ⟨rfl, rfl, rfl, Nat.le_refl _, fun _ _ _ => rfl⟩
theorem But.trans {p : Nat} {a b c : World} (h : But p a b) (k : But p b c) : But p a c :=
  ⟨k.1.trans h.1, k.2.1.trans h.2.1, k.2.2.1.trans h.2.2.1, Nat.le_trans h.2.2.2.1 k.2.2.2.1, fun i hi hp => (k.2.2.2.2 i (Nat.lt_of_lt_of_le hi h.2.2.2.1) hp).trans (h.2.2.2.2 i hi hp)⟩
theorem But.setCell {p : Nat} {a w : World} (h : But p a w) (o : Nat) (u : Value) : But p a (w.setCell ⟨p, o, none⟩ u) :=
  ⟨h.1, h.2.1, h.2.2.1, by rw [World.size_setCell]; exact h.2.2.2.1, fun k hk hp => (Below.heap_setCell w ⟨p, o, none⟩ u k hp).trans (h.2.2.2.2 k hk hp)⟩
theorem But.below {p B : Nat} {w w' : World} (h : But p w w') (hB : B ≤ p) (hs : B ≤ w.heap.size) : Below B w w' := ⟨h.1, h.2.1, h.2.2.1, h.2.2.2.1, fun k hk => h.2.2.2.2 k (by omega) (by omega)⟩
theorem But.cell {p k o : Nat} {w w' : World} (h : But p w w') (hk : k < w.heap.size) (hp : k ≠ p) : w'.cell? ⟨k, o, none⟩ = w.cell? ⟨k, o, none⟩ := World.cell?_of_block (w := w) (h.2.2.2.2 k hk hp)
theorem But.frozen {p k o : Nat} {w w' : World} (h : But p w w') (hk : k < w.heap.size) (hp : k ≠ p) : w'.frozen? ⟨k, o, none⟩ = w.frozen? ⟨k, o, none⟩ := World.frozen?_of_block (w := w) (h.2.2.2.2 k hk hp)
def CodeB (w : World) (B : Nat) (a : Option Addr) (n : Nat) : Prop := n = 0 ∨ ∃ b off, a = some ⟨b, off, none⟩ ∧ b < B ∧ ∀ i, i < n → ∃ z : Int, w.cell? ⟨b, off + i, none⟩ = some (.int .u8 z) ∧ 0 ≤ z ∧ z ≤ 255
theorem CodeB.below {w w' : World} {B : Nat} {a : Option Addr} {n : Nat} (h : CodeB w B a n) (hb : Below B w w') : CodeB w' B a n := by
  rcases h with h | ⟨b, off, h1, h2, h3⟩
  · exact .inl h
  · exact .inr ⟨b, off, h1, h2, fun i hi => by
      obtain ⟨z, e, hz⟩ := h3 i hi
      exact ⟨z, by rw [hb.cell (p := ⟨b, off + i, none⟩) h2]; exact e, hz⟩⟩
def CurAt (w : World) (B p : Nat) (a : Option Addr) (n c i : Nat) (h : Int) : Prop :=
  w.cell? ⟨p, 0, none⟩ = some (.slice a n c) ∧ w.cell? ⟨p, 1, none⟩ = some (.int .i64 i) ∧ w.cell? ⟨p, 2, none⟩ = some (.int .i64 h) ∧
  w.frozen? ⟨p, 0, none⟩ = false ∧ w.frozen? ⟨p, 1, none⟩ = false ∧ w.frozen? ⟨p, 2, none⟩ = false ∧ i ≤ n ∧ n ≤ 1048576 ∧ CodeB w B a n ∧ B ≤ p ∧ p < w.heap.size
def CurOk (w : World) (B p : Nat) : Prop := ∃ a n c i h, CurAt w B p a n c i h
theorem CurOk.lt {w : World} {B p : Nat} (h : CurOk w B p) : p < w.heap.size ∧ B ≤ p := by
  obtain ⟨a, n, c, i, hh, h⟩ := h
  exact ⟨h.2.2.2.2.2.2.2.2.2.2, h.2.2.2.2.2.2.2.2.2.1⟩
theorem CurOk.below {w w' : World} {B p : Nat} (h : CurOk w B p) (hb : Below w.heap.size w w') : CurOk w' B p := by
  obtain ⟨a, n, c, i, hh, h0, h1, h2, f0, f1, f2, hi, hn, hc, hB, hp⟩ := h
  refine ⟨a, n, c, i, hh, ?_, ?_, ?_, ?_, ?_, ?_, hi, hn, hc.below (hb.mono (by omega)), hB, Nat.lt_of_lt_of_le hp hb.size⟩
  · rw [hb.cell (p := ⟨p, 0, none⟩) hp]; exact h0
  · rw [hb.cell (p := ⟨p, 1, none⟩) hp]; exact h1
  · rw [hb.cell (p := ⟨p, 2, none⟩) hp]; exact h2
  · rw [hb.frozen (p := ⟨p, 0, none⟩) hp]; exact f0
  · rw [hb.frozen (p := ⟨p, 1, none⟩) hp]; exact f1
  · rw [hb.frozen (p := ⟨p, 2, none⟩) hp]; exact f2
theorem CurAt.set2 {w : World} {B p : Nat} {a : Option Addr} {n c i : Nat} {h : Int} (hc : CurAt w B p a n c i h) (k : Int) : CurAt (w.setCell ⟨p, 2, none⟩ (.int .i64 k)) B p a n c i k := by
  obtain ⟨h0, h1, h2, f0, f1, f2, hi, hn, hcode, hB, hp⟩ := hc
  refine ⟨?_, ?_, ?_, by simpa using f0, by simpa using f1, by simpa using f2, hi, hn, hcode.below ((Below.refl _ _).setCell hB _), hB, by simpa using hp⟩
  · rw [World.cell?_setCell_other _ _ _ _ (by simp)]; exact h0
  · rw [World.cell?_setCell_other _ _ _ _ (by simp)]; exact h1
  · exact World.cell?_setCell_same _ _ _ h2
theorem CurAt.set1 {w : World} {B p : Nat} {a : Option Addr} {n c i : Nat} {h : Int} (hc : CurAt w B p a n c i h) (k : Nat) (hk : k ≤ n) : CurAt (w.setCell ⟨p, 1, none⟩ (.int .i64 k)) B p a n c k h := by
  obtain ⟨h0, h1, h2, f0, f1, f2, hi, hn, hcode, hB, hp⟩ := hc
  refine ⟨?_, ?_, ?_, by simpa using f0, by simpa using f1, by simpa using f2, hk, hn, hcode.below ((Below.refl _ _).setCell hB _), hB, by simpa using hp⟩
  · rw [World.cell?_setCell_other _ _ _ _ (by simp)]; exact h0
  · exact World.cell?_setCell_same _ _ _ h1
  · rw [World.cell?_setCell_other _ _ _ _ (by simp)]; exact h2
end Go.Proofs.Ytlllbahfjihepaa
namespace Go.Proofs.Ytlllbahfjihepaa
open Go.RowKit
set_option linter.unusedVariables false
theorem ret_bool {a b : Bool} (h : a = b) : Ending.returned (.bool a) = .returned (.bool b) := by rw [h]
theorem bcell {W w1 : World} (hb : Below W.heap.size W w1) : (∀ b o, b < W.heap.size → w1.cell? ⟨b, o, none⟩ = W.cell? ⟨b, o, none⟩) ∧ (∀ b o, b < W.heap.size → w1.frozen? ⟨b, o, none⟩ = W.frozen? ⟨b, o, none⟩) :=
  ⟨fun b o h => hb.cell (p := ⟨b, o, none⟩) h, fun b o h => hb.frozen (p := ⟨b, o, none⟩) h⟩
def okI (lo hi : Int) : Bool := decide (lo ≤ hi ∧ -1000000000000 ≤ lo ∧ hi ≤ 1000000000000)
set_option maxHeartbeats 400000 in
theorem specIvalOk_any (lo hi : Int) (w : World) :
    Calls Try.prog 69 #[.agg #[.int .i64 lo, .int .i64 hi]] w fun e w' => e = .returned (.bool (okI lo hi)) ∧ Below w.heap.size w w' := by
  go_enter Try.func69, Try.ntmps69
  go_wp2
  all_goals go_ret
  all_goals exact ⟨ret_bool (by rw [Bool.eq_iff_iff]; simp [okI]; try omega), by repeat (first | exact Below.refl _ _ | refine Below.drew ?_ | refine Below.alloc ?_ (by first | (simp; done) | (simp; omega) | omega) _ | refine Below.setCell ?_ (by first | (simp; done) | (simp; omega) | omega) _ | refine Below.trans ?_ (Below.mono (by assumption) (by first | (simp; done) | (simp; omega) | omega)))⟩
set_option maxHeartbeats 400000 in
theorem ok_any (lo hi : Int) (w : World) :
    Calls Try.prog 99 #[.agg #[.int .i64 lo, .int .i64 hi]] w fun e w' => e = .returned (.bool (okI lo hi)) ∧ Below w.heap.size w w' := by
  go_enter Try.func99, Try.ntmps99
  go_wp2
  all_goals go_ret
  all_goals exact ⟨ret_bool (by rw [Bool.eq_iff_iff]; simp [okI]; try omega), by repeat (first | exact Below.refl _ _ | refine Below.drew ?_ | refine Below.alloc ?_ (by first | (simp; done) | (simp; omega) | omega) _ | refine Below.setCell ?_ (by first | (simp; done) | (simp; omega) | omega) _ | refine Below.trans ?_ (Below.mono (by assumption) (by first | (simp; done) | (simp; omega) | omega)))⟩
set_option maxHeartbeats 400000 in
theorem toIval_any (lo hi : Int) (w : World) :
    Calls Try.prog 71 #[.agg #[.int .i64 lo, .int .i64 hi]] w fun e w' => e = .returned (.agg #[.int .i64 lo, .int .i64 hi]) ∧ Below w.heap.size w w' := by
  go_enter Try.func71, Try.ntmps71
  go_wp2
  exact bodyPost_ret (v := .agg #[.int .i64 lo, .int .i64 hi]) (by simp [results, Try.results71, go_sem]) rfl ⟨rfl, by repeat (first | exact Below.refl _ _ | refine Below.drew ?_ | refine Below.alloc ?_ (by first | (simp; done) | (simp; omega) | omega) _ | refine Below.setCell ?_ (by first | (simp; done) | (simp; omega) | omega) _ | refine Below.trans ?_ (Below.mono (by assumption) (by first | (simp; done) | (simp; omega) | omega)))⟩
end Go.Proofs.Ytlllbahfjihepaa
namespace Go.Proofs.Ytlllbahfjihepaa
open Go.RowKit
set_option linter.unusedVariables false
def Byts (w : World) (b off n : Nat) (f : Nat → Int) : Prop := b < w.heap.size ∧ ∀ i, i < n → w.cell? ⟨b, off + i, none⟩ = some (.int .u8 (f i))
theorem Byts.below {w w' : World} {B b off n : Nat} {f : Nat → Int} (h : Byts w b off n f) (hb : Below B w w') (hB : b < B) : Byts w' b off n f :=
  ⟨Nat.lt_of_lt_of_le h.1 hb.size, fun i hi => by rw [hb.cell (p := ⟨b, off + i, none⟩) hB]; exact h.2 i hi⟩
def SrcB (w : World) (a : Option Addr) (n : Nat) (f : Nat → Int) : Prop := n = 0 ∨ ∃ b off, a = some ⟨b, off, none⟩ ∧ Byts w b off n f
theorem SrcB.below {w w' : World} {a : Option Addr} {n : Nat} {f : Nat → Int} (h : SrcB w a n f) (hb : Below w.heap.size w w') : SrcB w' a n f := by
  rcases h with h | ⟨b, off, h1, h2⟩
  · exact .inl h
  · exact .inr ⟨b, off, h1, h2.below hb h2.1⟩
end Go.Proofs.Ytlllbahfjihepaa
namespace Go.Proofs.Ytlllbahfjihepaa
open Go.RowKit
set_option linter.unusedVariables false
theorem Below.nw (w : World) (o : Obj) : Below w.heap.size w (w.alloc o) := (Below.refl _ _).alloc (Nat.le_refl _) _
def Cs (w : World) (b off N : Nat) (F : Nat → Value) : Prop := b < w.heap.size ∧ ∀ j, j < N → w.cell? ⟨b, off + j, none⟩ = some (F j)
theorem Cs.below {w w' : World} {B b off N : Nat} {F : Nat → Value} (h : Cs w b off N F) (hb : Below B w w') (hB : b < B) : Cs w' b off N F :=
  ⟨Nat.lt_of_lt_of_le h.1 hb.size, fun j hj => by rw [hb.cell (p := ⟨b, off + j, none⟩) hB]; exact h.2 j hj⟩
theorem Cs.drew {w : World} {b off N : Nat} {F : Nat → Value} (h : Cs w b off N F) : Cs w.drew b off N F := h
def SrcC (w : World) (a : Option Addr) (N : Nat) (F : Nat → Value) : Prop := N = 0 ∨ ∃ b off, a = some ⟨b, off, none⟩ ∧ Cs w b off N F
theorem SrcC.below {w w' : World} {a : Option Addr} {N : Nat} {F : Nat → Value} (h : SrcC w a N F) (hb : Below w.heap.size w w') : SrcC w' a N F := by
  rcases h with h | ⟨b, off, h1, h2⟩
  · exact .inl h
  · exact .inr ⟨b, off, h1, h2.below hb h2.1⟩
def RowF (w : World) (b : Nat) (T : TypeId) (N m : Nat) (F : Nat → Value) : Prop := ∃ g, w.rowIs b T N g ∧ ∀ j, j < m → g j = F j
theorem RowF.lt {w : World} {b N m : Nat} {T : TypeId} {F : Nat → Value} (h : RowF w b T N m F) : b < w.heap.size := by obtain ⟨g, hr, _⟩ := h; exact hr.lt
theorem RowF.below {w w' : World} {B b N m : Nat} {T : TypeId} {F : Nat → Value} (hb : Below B w w') (hB : b < B) (h : RowF w b T N m F) : RowF w' b T N m F := by
  obtain ⟨g, hr, hg⟩ := h
  exact ⟨g, hr.of_block (hb.block b hB), hg⟩
theorem RowF.below' {w w' : World} {b N m : Nat} {T : TypeId} {F : Nat → Value} (hb : Below w.heap.size w w') (h : RowF w b T N m F) : RowF w' b T N m F := RowF.below hb h.lt h
theorem RowF.zero {w : World} {b N m : Nat} {T : TypeId} {F : Nat → Value} (h : RowF w b T N m F) (G : Nat → Value) : RowF w b T N 0 G := by
  obtain ⟨g, hr, hg⟩ := h
  exact ⟨g, hr, fun j hj => absurd hj (Nat.not_lt_zero _)⟩
theorem RowF.facts {w : World} {b N m : Nat} {T : TypeId} {F : Nat → Value} (h : RowF w b T N m F) (j : Nat) (hj : j < N) : (∃ v, w.cell? ⟨b, j, none⟩ = some v) ∧ w.frozen? ⟨b, j, none⟩ = false := by
  obtain ⟨g, hr, hg⟩ := h
  exact ⟨⟨_, hr.cell hj⟩, hr.frozen _⟩
theorem RowF.put {w : World} {b N m : Nat} {T : TypeId} {F : Nat → Value} (h : RowF w b T N m F) (m' : Nat) (hm : m' = m + 1) {v : Value} (hv : F m = v) : RowF (w.setCell ⟨b, m, none⟩ v) b T N m' F := by
  obtain ⟨g, hr, hg⟩ := h
  refine ⟨_, hr.set _ _, fun j hj => ?_⟩
  by_cases e : j = m
  · subst e; simp only [if_true]; exact hv.symm
  · simp only [if_neg e]; exact hg j (by omega)
theorem RowF.setO {w : World} {b N m : Nat} {T : TypeId} {F : Nat → Value} (h : RowF w b T N m F) {k : Nat} (hk : k ≠ b) (o : Nat) (u : Value) : RowF (w.setCell ⟨k, o, none⟩ u) b T N m F := by
  obtain ⟨g, hr, hg⟩ := h
  exact ⟨g, hr.setOther (fun e => hk e.symm) u, hg⟩
theorem RowF.cs {w : World} {b N m : Nat} {T : TypeId} {F : Nat → Value} (h : RowF w b T N m F) (hm : m ≤ N) : Cs w b 0 m F := by
  obtain ⟨g, hr, hg⟩ := h
  exact ⟨hr.lt, fun j hj => by rw [Nat.zero_add, hr.cell (by omega), hg j hj]⟩
theorem RowF.eqm {w : World} {b N m m' : Nat} {T : TypeId} {F : Nat → Value} (h : RowF w b T N m F) (e : m = m') : RowF w b T N m' F := e ▸ h
theorem ownF_row {w : World} {base : Nat} {T : TypeId} {s g n cap : Nat} {xs : List Value} (F : Nat → Value) (h : w.ownsRow base T s (.slice (some ⟨g, 0, none⟩) n cap) n xs) : base ≤ g ∧ n ≤ cap ∧ cap ≤ maxLen ∧ RowF w g T (cap * s) 0 F := by
  rcases h.2 with ⟨h, _⟩ | ⟨g', cap', cur, he, h2, h3, h4, h5, h6, h7⟩
  · simp at h
  · simp at he
    obtain ⟨rfl, rfl⟩ := he
    exact ⟨h2, h4, h5, _, ⟨cur, h3, by omega, fun i hi => by rw [Array.getElem?_eq_getElem (by omega)]; exact congrArg some (by rw [Array.getD_eq_getD_getElem?, Array.getElem?_eq_getElem (by omega)]; rfl : cur[i]'(by omega) = cur.getD i undef)⟩, fun j hj => absurd hj (Nat.not_lt_zero _)⟩
theorem ownF_src {w : World} {base : Nat} {T : TypeId} {s n : Nat} {v : Value} {F : Nat → Value} (h : w.ownsRow base T s v n ((List.range (n * s)).map F)) :
    ∃ a c, v = .slice a n c ∧ n ≤ c ∧ c ≤ maxLen ∧ SrcC w a (n * s) F := by
  rcases h.2 with ⟨rfl, h0⟩ | ⟨g, cap, cur, rfl, hb, hg, hc, hm, hs, ht⟩
  · exact ⟨none, 0, by rw [h0], by omega, by simp [maxLen], .inl (by rw [h0, Nat.zero_mul])⟩
  · refine ⟨_, cap, rfl, hc, hm, .inr ⟨g, 0, rfl, (Array.getElem?_eq_some_iff.1 hg).1, fun i hi => ?_⟩⟩
    have hu : ((List.range (n * s)).map F)[i]? = some (F i) := by simp [hi]
    rw [← ht, List.getElem?_take, if_pos (by omega)] at hu
    simp [World.cell?, hg]
    simpa using hu
end Go.Proofs.Ytlllbahfjihepaa
namespace Go.Proofs.Ytlllbahfjihepaa
open Go.RowKit
set_option linter.unusedVariables false
set_option maxHeartbeats 400000 in
theorem eqIval_same (lo hi : Int) (w : World) :
    Calls Try.prog 80 #[.agg #[.int .i64 lo, .int .i64 hi], .agg #[.int .i64 lo, .int .i64 hi]] w fun e w' => e = .returned (.bool true) ∧ Below w.heap.size w w' := by
  go_enter Try.func80, Try.ntmps80
  go_wp2
  go_ret
  exact ⟨rfl, by repeat (first | exact Below.refl _ _ | refine Below.drew ?_ | refine Below.alloc ?_ (by first | (simp; done) | (simp; omega) | omega) _ | refine Below.setCell ?_ (by first | (simp; done) | (simp; omega) | omega) _ | refine Below.trans ?_ (Below.mono (by assumption) (by first | (simp; done) | (simp; omega) | omega)))⟩
end Go.Proofs.Ytlllbahfjihepaa
namespace Go.Proofs.Ytlllbahfjihepaa
open Go.RowKit
set_option linter.unusedVariables false
def Bx5 (w : World) (k : Nat) (u0 u1 u2 u3 u4 : Value) : Prop := k < w.heap.size ∧ w.cell? ⟨k, 0, none⟩ = some u0 ∧ w.cell? ⟨k, 1, none⟩ = some u1 ∧ w.cell? ⟨k, 2, none⟩ = some u2 ∧ w.cell? ⟨k, 3, none⟩ = some u3 ∧ w.cell? ⟨k, 4, none⟩ = some u4 ∧ w.frozen? ⟨k, 0, none⟩ = false ∧ w.frozen? ⟨k, 1, none⟩ = false ∧ w.frozen? ⟨k, 2, none⟩ = false ∧ w.frozen? ⟨k, 3, none⟩ = false ∧ w.frozen? ⟨k, 4, none⟩ = false
theorem Bx5.belowB {k B : Nat} {w w' : World} {u0 u1 u2 u3 u4 : Value} (h : Bx5 w k u0 u1 u2 u3 u4) (hw : Below B w w') (hk : k < B) : Bx5 w' k u0 u1 u2 u3 u4 := by
  obtain ⟨h0, h1, h2, h3, h4, h5, f1, f2, f3, f4, f5⟩ := h
  exact ⟨Nat.lt_of_lt_of_le h0 hw.size, by rw [hw.cell (p := ⟨k, 0, none⟩) hk]; exact h1, by rw [hw.cell (p := ⟨k, 1, none⟩) hk]; exact h2, by rw [hw.cell (p := ⟨k, 2, none⟩) hk]; exact h3, by rw [hw.cell (p := ⟨k, 3, none⟩) hk]; exact h4, by rw [hw.cell (p := ⟨k, 4, none⟩) hk]; exact h5, by rw [hw.frozen (p := ⟨k, 0, none⟩) hk]; exact f1, by rw [hw.frozen (p := ⟨k, 1, none⟩) hk]; exact f2, by rw [hw.frozen (p := ⟨k, 2, none⟩) hk]; exact f3, by rw [hw.frozen (p := ⟨k, 3, none⟩) hk]; exact f4, by rw [hw.frozen (p := ⟨k, 4, none⟩) hk]; exact f5⟩
theorem Bx5.below {k : Nat} {w w' : World} {u0 u1 u2 u3 u4 : Value} (h : Bx5 w k u0 u1 u2 u3 u4) (hw : Below w.heap.size w w') : Bx5 w' k u0 u1 u2 u3 u4 := h.belowB hw h.1
theorem Bx5.alloc {k : Nat} {w : World} {u0 u1 u2 u3 u4 : Value} (h : Bx5 w k u0 u1 u2 u3 u4) (o : Obj) : Bx5 (w.alloc o) k u0 u1 u2 u3 u4 := h.below ((Below.refl _ _).alloc (Nat.le_refl _) _)
theorem Bx5.new (w : World) (u0 u1 u2 u3 u4 : Value) (T : TypeId) : Bx5 (w.alloc (.cells #[u0, u1, u2, u3, u4] T)) w.heap.size u0 u1 u2 u3 u4 := ⟨by simp, by simp, by simp, by simp, by simp, by simp, by simp, by simp, by simp, by simp, by simp⟩
theorem Bx5.drew {k : Nat} {w : World} {u0 u1 u2 u3 u4 : Value} (h : Bx5 w k u0 u1 u2 u3 u4) : Bx5 w.drew k u0 u1 u2 u3 u4 := h
theorem Bx5.setO {k j : Nat} {w : World} {u0 u1 u2 u3 u4 : Value} (h : Bx5 w k u0 u1 u2 u3 u4) (hk : j ≠ k) (o : Nat) (u : Value) : Bx5 (w.setCell ⟨j, o, none⟩ u) k u0 u1 u2 u3 u4 := by
  have hne : ∀ q, (⟨j, o, none⟩ : Addr) ≠ ⟨k, q, none⟩ := fun q e => hk (congrArg Addr.block e)
  obtain ⟨h0, h1, h2, h3, h4, h5, f1, f2, f3, f4, f5⟩ := h
  exact ⟨by simpa using h0, by rw [World.cell?_setCell_other _ _ _ _ (hne _)]; exact h1, by rw [World.cell?_setCell_other _ _ _ _ (hne _)]; exact h2, by rw [World.cell?_setCell_other _ _ _ _ (hne _)]; exact h3, by rw [World.cell?_setCell_other _ _ _ _ (hne _)]; exact h4, by rw [World.cell?_setCell_other _ _ _ _ (hne _)]; exact h5, by simpa using f1, by simpa using f2, by simpa using f3, by simpa using f4, by simpa using f5⟩
theorem Bx5.set0 {k : Nat} {w : World} {u0 u1 u2 u3 u4 : Value} (h : Bx5 w k u0 u1 u2 u3 u4) (x : Value) : Bx5 (w.setCell ⟨k, 0, none⟩ x) k x u1 u2 u3 u4 := by
  obtain ⟨h0, h1, h2, h3, h4, h5, f1, f2, f3, f4, f5⟩ := h
  exact ⟨by simpa using h0, World.cell?_setCell_same _ _ _ h1, (World.cell?_setCell_other _ _ _ _ (by simp)).trans h2, (World.cell?_setCell_other _ _ _ _ (by simp)).trans h3, (World.cell?_setCell_other _ _ _ _ (by simp)).trans h4, (World.cell?_setCell_other _ _ _ _ (by simp)).trans h5, by simpa using f1, by simpa using f2, by simpa using f3, by simpa using f4, by simpa using f5⟩
theorem Bx5.set1 {k : Nat} {w : World} {u0 u1 u2 u3 u4 : Value} (h : Bx5 w k u0 u1 u2 u3 u4) (x : Value) : Bx5 (w.setCell ⟨k, 1, none⟩ x) k u0 x u2 u3 u4 := by
  obtain ⟨h0, h1, h2, h3, h4, h5, f1, f2, f3, f4, f5⟩ := h
  exact ⟨by simpa using h0, (World.cell?_setCell_other _ _ _ _ (by simp)).trans h1, World.cell?_setCell_same _ _ _ h2, (World.cell?_setCell_other _ _ _ _ (by simp)).trans h3, (World.cell?_setCell_other _ _ _ _ (by simp)).trans h4, (World.cell?_setCell_other _ _ _ _ (by simp)).trans h5, by simpa using f1, by simpa using f2, by simpa using f3, by simpa using f4, by simpa using f5⟩
theorem Bx5.set2 {k : Nat} {w : World} {u0 u1 u2 u3 u4 : Value} (h : Bx5 w k u0 u1 u2 u3 u4) (x : Value) : Bx5 (w.setCell ⟨k, 2, none⟩ x) k u0 u1 x u3 u4 := by
  obtain ⟨h0, h1, h2, h3, h4, h5, f1, f2, f3, f4, f5⟩ := h
  exact ⟨by simpa using h0, (World.cell?_setCell_other _ _ _ _ (by simp)).trans h1, (World.cell?_setCell_other _ _ _ _ (by simp)).trans h2, World.cell?_setCell_same _ _ _ h3, (World.cell?_setCell_other _ _ _ _ (by simp)).trans h4, (World.cell?_setCell_other _ _ _ _ (by simp)).trans h5, by simpa using f1, by simpa using f2, by simpa using f3, by simpa using f4, by simpa using f5⟩
theorem Bx5.set3 {k : Nat} {w : World} {u0 u1 u2 u3 u4 : Value} (h : Bx5 w k u0 u1 u2 u3 u4) (x : Value) : Bx5 (w.setCell ⟨k, 3, none⟩ x) k u0 u1 u2 x u4 := by
  obtain ⟨h0, h1, h2, h3, h4, h5, f1, f2, f3, f4, f5⟩ := h
  exact ⟨by simpa using h0, (World.cell?_setCell_other _ _ _ _ (by simp)).trans h1, (World.cell?_setCell_other _ _ _ _ (by simp)).trans h2, (World.cell?_setCell_other _ _ _ _ (by simp)).trans h3, World.cell?_setCell_same _ _ _ h4, (World.cell?_setCell_other _ _ _ _ (by simp)).trans h5, by simpa using f1, by simpa using f2, by simpa using f3, by simpa using f4, by simpa using f5⟩
theorem Bx5.set4 {k : Nat} {w : World} {u0 u1 u2 u3 u4 : Value} (h : Bx5 w k u0 u1 u2 u3 u4) (x : Value) : Bx5 (w.setCell ⟨k, 4, none⟩ x) k u0 u1 u2 u3 x := by
  obtain ⟨h0, h1, h2, h3, h4, h5, f1, f2, f3, f4, f5⟩ := h
  exact ⟨by simpa using h0, (World.cell?_setCell_other _ _ _ _ (by simp)).trans h1, (World.cell?_setCell_other _ _ _ _ (by simp)).trans h2, (World.cell?_setCell_other _ _ _ _ (by simp)).trans h3, (World.cell?_setCell_other _ _ _ _ (by simp)).trans h4, World.cell?_setCell_same _ _ _ h5, by simpa using f1, by simpa using f2, by simpa using f3, by simpa using f4, by simpa using f5⟩
abbrev PT : Type := Int × Int × Int × Int × Bool
def zP : PT := (0, 0, 0, 0, false)
set_option maxRecDepth 100000 in
set_option maxHeartbeats 4000000 in
theorem toPeer_any (x0 x1 x2 x3 : Int) (x4 : Bool) (w : World) :
    Calls Try.prog 73 #[.agg #[.int .i64 x0, .int .i64 x1, .int .i64 x2, .int .i64 x3, .bool x4]] w fun e w' => e = .returned (.agg #[.int .i64 x0, .int .i64 x1, .int .i64 x2, .int .i64 x3, .bool x4]) ∧ Below w.heap.size w w' := by
  have P0 := ((Bx5.new w (.int .i64 x0) (.int .i64 x1) (.int .i64 x2) (.int .i64 x3) (.bool x4) 127).alloc (.cells #[.int .i64 0, .int .i64 0, .int .i64 0, .int .i64 0, .bool false] 94)).alloc (.cells #[.int .i64 x0, .int .i64 0, .int .i64 0, .int .i64 0, .bool false] 94)
  have P1 := (Bx5.new (w.alloc (.cells #[.int .i64 x0, .int .i64 x1, .int .i64 x2, .int .i64 x3, .bool x4] 127)) (.int .i64 0) (.int .i64 0) (.int .i64 0) (.int .i64 0) (.bool false) 94).alloc (.cells #[.int .i64 x0, .int .i64 0, .int .i64 0, .int .i64 0, .bool false] 94)
  have P2 := Bx5.new ((w.alloc (.cells #[.int .i64 x0, .int .i64 x1, .int .i64 x2, .int .i64 x3, .bool x4] 127)).alloc (.cells #[.int .i64 0, .int .i64 0, .int .i64 0, .int .i64 0, .bool false] 94)) (.int .i64 x0) (.int .i64 0) (.int .i64 0) (.int .i64 0) (.bool false) 94
  simp only [World.size_alloc] at P1 P2
  go_enter Try.func73, Try.ntmps73
  go_wp2_with fail
  refine (toIval_any _ _ _).mono ?_
  rintro e w1 ⟨rfl, hb⟩
  have hw1 : Below w.heap.size w w1 := (((Below.nw w _).alloc (by first | (simp; done) | (simp; omega) | omega) _).alloc (by first | (simp; done) | (simp; omega) | omega) _).trans (hb.mono (by first | (simp; done) | (simp; omega) | omega))
  have hs : w.heap.size + 2 < w1.heap.size := by have := hb.size; simp at this; omega
  have Q0 := P0.below hb
  have Q1 := P1.below hb
  have Q2 := P2.below hb
  clear P0 P1 P2 hb
  obtain ⟨a0, a1, a2, a3, a4, a5, e1, e2, e3, e4, e5⟩ := Q0
  obtain ⟨b0, b1, b2, b3, b4, b5, y1, y2, y3, y4, y5⟩ := Q1
  obtain ⟨c0, c1, c2, c3, c4, c5, z1, z2, z3, z4, z5⟩ := Q2
  go_wp2_with fail
  exact bodyPost_ret (v := .agg #[.int .i64 x0, .int .i64 x1, .int .i64 x2, .int .i64 x3, .bool x4]) (by simp (maxDischargeDepth := 6) [results, Try.results73, go_sem, *]) rfl ⟨rfl, by repeat (first | refine Below.setCell ?_ (by first | (simp; done) | (simp; omega) | omega) _ | exact hw1)⟩
set_option maxHeartbeats 2000000 in
theorem eqPeer_same (x0 x1 x2 x3 : Int) (x4 : Bool) (w : World) :
    Calls Try.prog 82 #[.agg #[.int .i64 x0, .int .i64 x1, .int .i64 x2, .int .i64 x3, .bool x4], .agg #[.int .i64 x0, .int .i64 x1, .int .i64 x2, .int .i64 x3, .bool x4]] w fun e w' => e = .returned (.bool true) ∧ Below w.heap.size w w' := by
  go_enter Try.func82, Try.ntmps82
  go_wp2_with (first | (go_at_call 80; refine (eqIval_same _ _ _).mono ?_; rintro e w' ⟨rfl, hb⟩; obtain ⟨hc, hf⟩ := bcell hb; (first | have hB := Below.trans (Below.trans hB (by repeat (first | exact Below.refl _ _ | refine Below.drew ?_ | refine Below.alloc ?_ (by first | (simp; done) | (simp; omega) | omega) _ | refine Below.setCell ?_ (by first | (simp; done) | (simp; omega) | omega) _ | refine Below.trans ?_ (Below.mono (by assumption) (by first | (simp; done) | (simp; omega) | omega))))) (Below.mono hb (by first | (simp; done) | (simp; omega) | omega)) | have hB := hb); obtain ⟨hC, hF⟩ := bcell hB; have hz := hb.size; (try simp at hz); (try (have hz0 : w.heap.size < w'.heap.size := by omega)); (try (have hz1 : w.heap.size + 1 < w'.heap.size := by omega)); (try (have hz2 : w.heap.size + 1 + 1 < w'.heap.size := by omega)); (try (have hz3 : w.heap.size + 1 + 1 + 1 < w'.heap.size := by omega))))
  go_ret
  exact ⟨rfl, by repeat (first | exact Below.refl _ _ | refine Below.drew ?_ | refine Below.alloc ?_ (by first | (simp; done) | (simp; omega) | omega) _ | refine Below.setCell ?_ (by first | (simp; done) | (simp; omega) | omega) _ | refine Below.trans ?_ (Below.mono (by assumption) (by first | (simp; done) | (simp; omega) | omega)))⟩
def MCPeer (M : PT) : Nat → Value
  | 0 => .int .i64 M.1
  | 1 => .int .i64 M.2.1
  | 2 => .int .i64 M.2.2.1
  | 3 => .int .i64 M.2.2.2.1
  | _ => .bool M.2.2.2.2
def MFPeer (M : Nat → PT) (c : Nat) : Value := MCPeer (M (c / 5)) (c % 5)
theorem MFPeer_at (M : Nat → PT) (k j : Nat) (hj : j < 5) : MFPeer M (k * 5 + j) = MCPeer (M k) j := by
  have h1 : (k * 5 + j) / 5 = k := by omega
  have h2 : (k * 5 + j) % 5 = j := by omega
  rw [MFPeer, h1, h2]
theorem MFPeer_vals {M : Nat → PT} {k : Nat} {x0 : Int} {x1 : Int} {x2 : Int} {x3 : Int} {x4 : Bool} (hM : M k = (x0, x1, x2, x3, x4)) : MFPeer M (k * 5) = .int .i64 x0 ∧ MFPeer M (k * 5 + 1) = .int .i64 x1 ∧ MFPeer M (k * 5 + 2) = .int .i64 x2 ∧ MFPeer M (k * 5 + 3) = .int .i64 x3 ∧ MFPeer M (k * 5 + 4) = .bool x4 :=
  ⟨by have q := MFPeer_at M k 0 (by decide); rw [hM] at q; exact q, by have q := MFPeer_at M k 1 (by decide); rw [hM] at q; exact q, by have q := MFPeer_at M k 2 (by decide); rw [hM] at q; exact q, by have q := MFPeer_at M k 3 (by decide); rw [hM] at q; exact q, by have q := MFPeer_at M k 4 (by decide); rw [hM] at q; exact q⟩
theorem Cs.elPeer {w : World} {b off n k : Nat} {M : Nat → PT} {x0 : Int} {x1 : Int} {x2 : Int} {x3 : Int} {x4 : Bool} (h : Cs w b off (n * 5) (MFPeer M)) (hk : k < n) (hM : M k = (x0, x1, x2, x3, x4)) : w.cell? ⟨b, off + k * 5, none⟩ = some (.int .i64 x0) ∧ w.cell? ⟨b, off + k * 5 + 1, none⟩ = some (.int .i64 x1) ∧ w.cell? ⟨b, off + k * 5 + 2, none⟩ = some (.int .i64 x2) ∧ w.cell? ⟨b, off + k * 5 + 3, none⟩ = some (.int .i64 x3) ∧ w.cell? ⟨b, off + k * 5 + 4, none⟩ = some (.bool x4) := by
  obtain ⟨q0, q1, q2, q3, q4⟩ := MFPeer_vals hM
  exact ⟨by have := h.2 (k * 5) (by omega); rw [q0] at this; exact this, by have := h.2 (k * 5 + 1) (by omega); rw [q1] at this; exact this, by have := h.2 (k * 5 + 2) (by omega); rw [q2] at this; exact this, by have := h.2 (k * 5 + 3) (by omega); rw [q3] at this; exact this, by have := h.2 (k * 5 + 4) (by omega); rw [q4] at this; exact this⟩
theorem tupPeer (M : Nat → PT) (k : Nat) : ∃ (x0 : Int) (x1 : Int) (x2 : Int) (x3 : Int) (x4 : Bool), M k = (x0, x1, x2, x3, x4) := ⟨_, _, _, _, _, rfl⟩
set_option maxHeartbeats 1000000 in
theorem szPeerS_any (a : Option Addr) (n c : Nat) (L : Int) (w : World) (hm : n ≤ maxLen) (L0 : 0 ≤ L) (L1 : L ≤ 1048576) :
    Calls Try.prog 31 #[.slice a n c, .int .i64 L] w fun e w' => e = .returned (.int .i64 (if (n : Int) ≤ L then L - (n : Int) else -1)) ∧ w = w' := by
  unfold maxLen at hm
  by_cases h : (n : Int) ≤ L
  · rw [if_pos h]
    have hd : decide (L - (n : Int) < 0) = false := by simp; omega
    go_enter Try.func31, Try.ntmps31
    go_wp2_with fail
    go_ret
    exact ⟨rfl, rfl⟩
  · rw [if_neg h]
    have hd : decide (L - (n : Int) < 0) = true := by simp; omega
    go_enter Try.func31, Try.ntmps31
    go_wp2_with fail
    go_ret
    exact ⟨rfl, rfl⟩
def rowObjPeer (n : Nat) : Obj := .cells (madeCells #[.int .i64 0, .int .i64 0, .int .i64 0, .int .i64 0, .bool false] (n * 5)) 94
theorem infoPeer : (Try.prog.info? 94).map (fun i => (i.zero, i.size, i.bytes)) = some (some (.agg #[.int .i64 0, .int .i64 0, .int .i64 0, .int .i64 0, .bool false]), 5, 40) := by kernel_rfl
theorem mk_rowPeer (n : Nat) (h : n ≤ 1048576) (w : World) : (Instr.makeSlice 64 (.int .i64 (n : Int)) (.int .i64 (n : Int))).run Try.prog w = .ok (.slice (some ⟨w.heap.size, 0, none⟩) n n) (w.alloc (rowObjPeer n)) := by
  obtain ⟨i, hi, hz⟩ := Option.map_eq_some_iff.1 infoPeer
  simp only [Prod.mk.injEq] at hz
  obtain ⟨h1, h2, h3⟩ := hz
  have hr := run_make (P := Try.prog) w 64 94 i _ Try.underlying64 hi h1 .i64 .i64 n n (by omega) (Int.le_refl _) (by rw [h3]; omega) (by omega)
  simp only [Int.toNat_natCast, h2] at hr
  exact hr
theorem rowObjPeer_is (w : World) (n : Nat) (F : Nat → Value) : RowF (w.alloc (rowObjPeer n)) w.heap.size 94 (n * 5) 0 F := by
  have h := World.rowIs_alloc w (madeCells #[.int .i64 0, .int .i64 0, .int .i64 0, .int .i64 0, .bool false] (n * 5)) 94 (fun i => (madeCells #[.int .i64 0, .int .i64 0, .int .i64 0, .int .i64 0, .bool false] (n * 5)).getD i undef) (fun i hi => by
    rw [Array.getElem?_eq_getElem hi]; exact congrArg some (by rw [Array.getD_eq_getD_getElem?, Array.getElem?_eq_getElem hi]; rfl))
  rw [size_madeCells] at h
  exact ⟨_, h, fun j hj => absurd hj (Nat.not_lt_zero _)⟩
set_option maxHeartbeats 4000000 in
theorem toPeerS_some (b off n c : Nat) (M : Nat → PT) (w : World) (hn : n ≤ 1048576) (hf : Cs w b off (n * 5) (MFPeer M)) :
    Calls Try.prog 45 #[.slice (some ⟨b, off, none⟩) n c] w fun e w' => e = .returned (.slice (some ⟨w.heap.size, 0, none⟩) n n) ∧ RowF w' w.heap.size 94 (n * 5) (n * 5) (MFPeer M) ∧ Below w.heap.size w w' := by
  have hmk := mk_rowPeer n hn
  go_enter Try.func45, Try.ntmps45
  go_wp2_with fail
  clear hmk
  go_loopw [4] (fun i wr => ∃ k : Nat, k ≤ n ∧ i = .int .i64 k ∧ RowF wr w.heap.size 94 (n * 5) (k * 5) (MFPeer M) ∧ Below w.heap.size w wr) (fun i _ => n - (intOf i).toNat)
  case atStart => exact ⟨0, Nat.zero_le _, rfl, (rowObjPeer_is w n _).eqm (by omega), (Below.refl _ _).alloc (Nat.le_refl _) _⟩
  case round =>
    obtain ⟨k, hk, rfl, hrow, hB⟩ := hrel
    by_cases hlt : k < n
    · obtain ⟨x0, x1, x2, x3, x4, hM⟩ := tupPeer M k
      obtain ⟨c0, c1, c2, c3, c4⟩ := (hf.below hB hf.1).elPeer hlt hM
      obtain ⟨q0, q1, q2, q3, q4⟩ := MFPeer_vals hM
      have hli : (k : Int) < (n : Int) := by omega
      have hlr := hrow.lt
      clear hM
      go_wp2_with fail
      refine (toPeer_any x0 x1 x2 x3 x4 _).mono ?_
      rintro e w' ⟨rfl, hb⟩
      have row := RowF.below hb hlr hrow
      have hB2 := hB.trans (hb.mono hB.size)
      clear c0 c1 c2 c3 c4 hrow hB hb
      have hlr2 := row.lt
      obtain ⟨⟨v0, e0⟩, f0⟩ := row.facts (k * 5) (by omega)
      obtain ⟨⟨v1, e1⟩, f1⟩ := row.facts (k * 5 + 1) (by omega)
      obtain ⟨⟨v2, e2⟩, f2⟩ := row.facts (k * 5 + 2) (by omega)
      obtain ⟨⟨v3, e3⟩, f3⟩ := row.facts (k * 5 + 3) (by omega)
      obtain ⟨⟨v4, e4⟩, f4⟩ := row.facts (k * 5 + 4) (by omega)
      go_wp2_with fail
      go_roundw
      case rel => exact ⟨k + 1, by omega, by go_num, (((((row.put (k * 5 + 1) (by omega) q0).put (k * 5 + 2) (by omega) q1).put (k * 5 + 3) (by omega) q2).put (k * 5 + 4) (by omega) q3).put ((k + 1) * 5) (by omega) q4), (((((hB2.setCell (Nat.le_refl _) _).setCell (Nat.le_refl _) _).setCell (Nat.le_refl _) _).setCell (Nat.le_refl _) _).setCell (Nat.le_refl _) _)⟩
      case measure => simp [intOf]; omega
    · have hkn : k = n := by omega
      subst hkn
      have hli : ¬ (k : Int) < (k : Int) := by omega
      go_wp2_with fail
      go_ret
      exact ⟨rfl, hrow, hB⟩
set_option maxHeartbeats 1000000 in
theorem toPeerS_empty (a : Option Addr) (c : Nat) (F : Nat → Value) (w : World) :
    Calls Try.prog 45 #[.slice a 0 c] w fun e w' => e = .returned (.slice (some ⟨w.heap.size, 0, none⟩) 0 0) ∧ RowF w' w.heap.size 94 (0 * 5) (0 * 5) F ∧ Below w.heap.size w w' := by
  have hmk := mk_rowPeer 0 (by omega)
  simp only [Int.ofNat_zero] at hmk
  go_enter Try.func45, Try.ntmps45
  go_wp2_with fail
  clear hmk
  go_loopw [4] (fun i wr => i = .int .i64 0 ∧ RowF wr w.heap.size 94 (0 * 5) 0 F ∧ Below w.heap.size w wr) (fun i _ => 0)
  case atStart => exact ⟨rfl, rowObjPeer_is w 0 F, (Below.refl _ _).alloc (Nat.le_refl _) _⟩
  case round =>
    obtain ⟨rfl, hrow, hB⟩ := hrel
    go_wp2_with fail
    go_ret
    exact ⟨rfl, hrow.eqm (by omega), hB⟩
theorem toPeerS_any (a : Option Addr) (n c : Nat) (M : Nat → PT) (w : World) (hn : n ≤ 1048576) (h : SrcC w a (n * 5) (MFPeer M)) :
    Calls Try.prog 45 #[.slice a n c] w fun e w' => e = .returned (.slice (some ⟨w.heap.size, 0, none⟩) n n) ∧ RowF w' w.heap.size 94 (n * 5) (n * 5) (MFPeer M) ∧ Below w.heap.size w w' := by
  rcases h with h0 | ⟨b, off, rfl, h2⟩
  · have hn0 : n = 0 := by omega
    subst hn0
    exact toPeerS_empty a c _ w
  · exact toPeerS_some b off n c M w hn h2
set_option maxHeartbeats 8000000 in
theorem eqPeerS_some (b off b' off' n c c' : Nat) (M : Nat → PT) (w : World) (hn : n ≤ maxLen) (hf : Cs w b off (n * 5) (MFPeer M)) (hg : Cs w b' off' (n * 5) (MFPeer M)) :
    Calls Try.prog 52 #[.slice (some ⟨b, off, none⟩) n c, .slice (some ⟨b', off', none⟩) n c'] w fun e w' => e = .returned (.bool true) ∧ Below w.heap.size w w' := by
  unfold maxLen at hn
  go_enter Try.func52, Try.ntmps52
  go_wp2_with fail
  go_loopw [5] (fun i wr => ∃ k : Nat, k ≤ n ∧ i = .int .i64 k ∧ Below w.heap.size w wr) (fun i _ => n - (intOf i).toNat)
  case atStart => exact ⟨0, Nat.zero_le _, rfl, Below.refl _ _⟩
  case round =>
    obtain ⟨k, hk, rfl, hB⟩ := hrel
    by_cases hlt : k < n
    · obtain ⟨x0, x1, x2, x3, x4, hM⟩ := tupPeer M k
      obtain ⟨c0, c1, c2, c3, c4⟩ := (hf.below hB hf.1).elPeer hlt hM
      obtain ⟨d0, d1, d2, d3, d4⟩ := (hg.below hB hg.1).elPeer hlt hM
      have hb1 : b < wr.drew.heap.size := Nat.lt_of_lt_of_le hf.1 hB.size
      have hb2 : b' < wr.drew.heap.size := Nat.lt_of_lt_of_le hg.1 hB.size
      have hsz : w.heap.size ≤ wr.drew.heap.size := hB.size
      have hli : (k : Int) < (n : Int) := by omega
      clear hM
      go_wp2_with fail
      refine wp_region_held_drew (S := (fun w' => w'.cell? ⟨b, off + k * 5, none⟩ = some (.int .i64 x0) ∧ w'.cell? ⟨b, off + k * 5 + 1, none⟩ = some (.int .i64 x1) ∧ w'.cell? ⟨b, off + k * 5 + 2, none⟩ = some (.int .i64 x2) ∧ w'.cell? ⟨b, off + k * 5 + 3, none⟩ = some (.int .i64 x3) ∧ w'.cell? ⟨b, off + k * 5 + 4, none⟩ = some (.bool x4) ∧ w'.cell? ⟨b', off' + k * 5, none⟩ = some (.int .i64 x0) ∧ w'.cell? ⟨b', off' + k * 5 + 1, none⟩ = some (.int .i64 x1) ∧ w'.cell? ⟨b', off' + k * 5 + 2, none⟩ = some (.int .i64 x2) ∧ w'.cell? ⟨b', off' + k * 5 + 3, none⟩ = some (.int .i64 x3) ∧ w'.cell? ⟨b', off' + k * 5 + 4, none⟩ = some (.bool x4))) (by kernel_rfl) ?_ (fun hHeld => ?_)
      · first | exact ⟨c0, c1, c2, c3, c4, d0, d1, d2, d3, d4⟩ | (simp (maxDischargeDepth := 6) [go_sem, *]; done)
      refine wpAnyH_take (i := 0) (v := ?_) (by rw [List.getElem?_toArray]; rfl) (by kernel_rfl) (by kernel_rfl) (by kernel_rfl) (by intro _ _ _ h; exact h) (Or.inl ⟨by rfl, ?_⟩) (by assumption) ?_
      rotate_left
      · (intro w hSw; (try dsimp only at hSw); go_simp; all_goals with_reducible rfl)
      (try simp only [Act.put, List.setIfInBounds_toArray, List.set_cons_zero, List.set_cons_succ])
      refine wpAnyH_take (i := 1) (v := ?_) (by rw [List.getElem?_toArray]; rfl) (by kernel_rfl) (by kernel_rfl) (by kernel_rfl) (by intro _ _ _ h; exact h) (Or.inl ⟨by rfl, ?_⟩) (by assumption) ?_
      rotate_left
      · (intro w hSw; (try dsimp only at hSw); go_simp; all_goals with_reducible rfl)
      (try simp only [Act.put, List.setIfInBounds_toArray, List.set_cons_zero, List.set_cons_succ])
      refine wpAnyH_take (i := 2) (v := ?_) (by rw [List.getElem?_toArray]; rfl) (by kernel_rfl) (by kernel_rfl) (by kernel_rfl) (by intro _ _ _ h; exact h) (Or.inl ⟨by rfl, ?_⟩) (by assumption) ?_
      rotate_left
      · (intro w hSw; (try dsimp only at hSw); go_simp; all_goals with_reducible rfl)
      (try simp only [Act.put, List.setIfInBounds_toArray, List.set_cons_zero, List.set_cons_succ])
      refine wpAnyH_take (i := 3) (v := ?_) (by rw [List.getElem?_toArray]; rfl) (by kernel_rfl) (by kernel_rfl) (by kernel_rfl) (by intro _ _ _ h; exact h) (Or.inl ⟨by rfl, ?_⟩) (by assumption) ?_
      rotate_left
      · (intro w hSw; (try dsimp only at hSw); go_simp; all_goals with_reducible rfl)
      (try simp only [Act.put, List.setIfInBounds_toArray, List.set_cons_zero, List.set_cons_succ])
      refine wpAnyH_take (i := 4) (v := ?_) (by rw [List.getElem?_toArray]; rfl) (by kernel_rfl) (by kernel_rfl) (by kernel_rfl) (by intro _ _ _ h; exact h) (Or.inl ⟨by rfl, ?_⟩) (by assumption) ?_
      rotate_left
      · (intro w hSw; (try dsimp only at hSw); go_simp; all_goals with_reducible rfl)
      (try simp only [Act.put, List.setIfInBounds_toArray, List.set_cons_zero, List.set_cons_succ])
      refine wpAnyH_take (i := 5) (v := ?_) (by rw [List.getElem?_toArray]; rfl) (by kernel_rfl) (by kernel_rfl) (by kernel_rfl) (by intro _ _ _ h; exact h) (Or.inl ⟨by rfl, ?_⟩) (by assumption) ?_
      rotate_left
      · (intro w hSw; (try dsimp only at hSw); go_simp; all_goals with_reducible rfl)
      (try simp only [Act.put, List.setIfInBounds_toArray, List.set_cons_zero, List.set_cons_succ])
      refine wpAnyH_take (i := 6) (v := ?_) (by rw [List.getElem?_toArray]; rfl) (by kernel_rfl) (by kernel_rfl) (by kernel_rfl) (by intro _ _ _ h; exact h) (Or.inl ⟨by rfl, ?_⟩) (by assumption) ?_
      rotate_left
      · (intro w hSw; (try dsimp only at hSw); go_simp; all_goals with_reducible rfl)
      (try simp only [Act.put, List.setIfInBounds_toArray, List.set_cons_zero, List.set_cons_succ])
      refine wpAnyH_take (i := 7) (v := ?_) (by rw [List.getElem?_toArray]; rfl) (by kernel_rfl) (by kernel_rfl) (by kernel_rfl) (by intro _ _ _ h; exact h) (Or.inl ⟨by rfl, ?_⟩) (by assumption) ?_
      rotate_left
      · (intro w hSw; (try dsimp only at hSw); go_simp; all_goals with_reducible rfl)
      (try simp only [Act.put, List.setIfInBounds_toArray, List.set_cons_zero, List.set_cons_succ])
      refine wpAnyH_ready (rs := [8]) (by kernel_rfl) (by simp) ?_
      refine AllReadyH.cons (by rw [List.getElem?_toArray]; rfl) (fun K hK => ?_) AllReadyH.nil
      go_simp
      refine (eqPeer_same _ _ _ _ _ _).mono ?_; rintro e w' ⟨rfl, hb⟩; (replace c0 := (hb.cell (p := ⟨b, off + k * 5, none⟩) hb1).trans c0); (replace c1 := (hb.cell (p := ⟨b, off + k * 5 + 1, none⟩) hb1).trans c1); (replace c2 := (hb.cell (p := ⟨b, off + k * 5 + 2, none⟩) hb1).trans c2); (replace c3 := (hb.cell (p := ⟨b, off + k * 5 + 3, none⟩) hb1).trans c3); (replace c4 := (hb.cell (p := ⟨b, off + k * 5 + 4, none⟩) hb1).trans c4); (replace d0 := (hb.cell (p := ⟨b', off' + k * 5, none⟩) hb2).trans d0); (replace d1 := (hb.cell (p := ⟨b', off' + k * 5 + 1, none⟩) hb2).trans d1); (replace d2 := (hb.cell (p := ⟨b', off' + k * 5 + 2, none⟩) hb2).trans d2); (replace d3 := (hb.cell (p := ⟨b', off' + k * 5 + 3, none⟩) hb2).trans d3); (replace d4 := (hb.cell (p := ⟨b', off' + k * 5 + 4, none⟩) hb2).trans d4)
      (try go_wp2_with fail)
      refine hK.out _ _ ?_ (fun hHeld => ?_)
      · first | exact ⟨c0, c1, c2, c3, c4, d0, d1, d2, d3, d4⟩ | (simp (maxDischargeDepth := 6) [go_sem, *]; done)
      clear hK K
      (try simp only [Act.put, List.setIfInBounds_toArray, List.set_cons_zero, List.set_cons_succ])
      refine wpAnyH_take (i := 9) (v := ?_) (by rw [List.getElem?_toArray]; rfl) (by kernel_rfl) (by kernel_rfl) (by kernel_rfl) (by intro _ _ _ h; exact h) (Or.inl ⟨by rfl, ?_⟩) (by assumption) ?_
      rotate_left
      · (intro w hSw; (try dsimp only at hSw); go_simp; all_goals with_reducible rfl)
      (try simp only [Act.put, List.setIfInBounds_toArray, List.set_cons_zero, List.set_cons_succ])
      refine wpAnyH_done (by kernel_rfl) ?_ _
      go_wp2_with fail
      go_roundw
      case rel => exact ⟨k + 1, by omega, by go_num, (Below.drew hB).trans (hb.mono hsz)⟩
      case measure => simp [intOf]; omega
    · go_wp2_with fail
      go_ret
      exact ⟨rfl, hB⟩
set_option maxHeartbeats 400000 in
theorem eqPeerS_zero (a a' : Option Addr) (c c' : Nat) (w : World) :
    Calls Try.prog 52 #[.slice a 0 c, .slice a' 0 c'] w fun e w' => e = .returned (.bool true) ∧ Below w.heap.size w w' := by
  go_enter Try.func52, Try.ntmps52
  go_wp2_with fail
  go_loopw [5] (fun i wr => i = .int .i64 0 ∧ w = wr) (fun i _ => 0)
  case atStart => exact ⟨rfl, rfl⟩
  case round =>
    obtain ⟨rfl, rfl⟩ := hrel
    go_wp2_with fail
    go_ret
    exact ⟨rfl, Below.refl _ _⟩
theorem eqPeerS_src (a a' : Option Addr) (n c c' : Nat) (M : Nat → PT) (w : World) (hn : n ≤ maxLen) (h : SrcC w a (n * 5) (MFPeer M)) (h' : SrcC w a' (n * 5) (MFPeer M)) :
    Calls Try.prog 52 #[.slice a n c, .slice a' n c'] w fun e w' => e = .returned (.bool true) ∧ Below w.heap.size w w' := by
  by_cases h0 : n = 0
  · subst h0; exact eqPeerS_zero a a' c c' w
  · rcases h with h | ⟨b, off, rfl, hp⟩
    · omega
    · rcases h' with h | ⟨b', off', rfl, hp'⟩
      · omega
      · exact eqPeerS_some b off b' off' n c c' M w hn hp hp'
def mkPeer (q : Int) (c : Nat) : Value := if c % 5 = 4 then .bool ((q + (c : Int)) % 3 == 0) else .int .i64 (q + (c : Int))
theorem mkPeer_i {q : Int} {k j : Nat} {x : Int} (hj : j < 4) (h : x = q + ((k * 5 + j : Nat) : Int)) : mkPeer q (k * 5 + j) = .int .i64 x := by rw [mkPeer, if_neg (by omega), h]
theorem mkPeer_b {q : Int} {k : Nat} {x : Int} (h : x = q + ((k * 5 + 4 : Nat) : Int)) : mkPeer q (k * 5 + 4) = .bool (x % 3 == 0) := by rw [mkPeer, if_pos (by omega), h]
set_option maxHeartbeats 8000000 in
theorem markPeerS_row (b N n c : Nat) (q0 : Int) (w : World) (hn : n ≤ 1048576) (hq : 0 < q0) (hq1 : q0 ≤ 1073741824) (hN : n * 5 ≤ N) (h : RowF w b 94 N 0 (mkPeer q0)) :
    Calls Try.prog 57 #[.slice (some ⟨b, 0, none⟩) n c, .int .i64 q0] w fun e w' => e = .returned (.int .i64 (q0 + (n : Int) * 5)) ∧ RowF w' b 94 N (n * 5) (mkPeer q0) ∧ But b w w' := by
  go_enter Try.func57, Try.ntmps57
  go_wp2_with fail
  go_loopw [1, 5] (fun q i wr => ∃ (k : Nat) (Q : Int), k ≤ n ∧ i = .int .i64 k ∧ q = .int .i64 Q ∧ Q = q0 + (k : Int) * 5 ∧ RowF wr b 94 N (k * 5) (mkPeer q0) ∧ But b w wr) (fun _ i _ => n - (intOf i).toNat)
  case atStart => exact ⟨0, q0, Nat.zero_le _, rfl, rfl, by omega, h.eqm (by omega), But.refl _ _⟩
  case round =>
    obtain ⟨k, Q, hk, rfl, rfl, hQ, row, hB⟩ := hrel
    clear h
    have HQ : Hid (Q = q0 + (k : Int) * 5) := hQ
    by_cases hlt : k < n
    · have hli : (k : Int) < (n : Int) := by omega
      have Q0 : 0 < Q := by omega
      have Q1 : Q ≤ 1073741824 + 1048576 * 5 := by omega
      clear hQ
      have hlr := row.lt
      obtain ⟨⟨v0, e0⟩, f0⟩ := row.facts (k * 5) (by omega)
      obtain ⟨⟨v1, e1⟩, f1⟩ := row.facts (k * 5 + 1) (by omega)
      obtain ⟨⟨v2, e2⟩, f2⟩ := row.facts (k * 5 + 2) (by omega)
      obtain ⟨⟨v3, e3⟩, f3⟩ := row.facts (k * 5 + 3) (by omega)
      obtain ⟨⟨v4, e4⟩, f4⟩ := row.facts (k * 5 + 4) (by omega)
      go_wp2_with fail
      go_roundw
      case rel => exact ⟨k + 1, _, by omega, by go_num, rfl, by have := HQ.out; omega, (RowF.put (RowF.put (RowF.put (RowF.put (RowF.put row (k * 5 + 1) (by omega) (mkPeer_i (k := k) (j := 0) (by decide) (by have := HQ.out; omega))) (k * 5 + 2) (by omega) (mkPeer_i (k := k) (j := 1) (by decide) (by have := HQ.out; omega))) (k * 5 + 3) (by omega) (mkPeer_i (k := k) (j := 2) (by decide) (by have := HQ.out; omega))) (k * 5 + 4) (by omega) (mkPeer_i (k := k) (j := 3) (by decide) (by have := HQ.out; omega))) ((k + 1) * 5) (by omega) (mkPeer_b (k := k) (by have := HQ.out; omega))), (((((hB.setCell _ _).setCell _ _).setCell _ _).setCell _ _).setCell _ _)⟩
      case measure => simp [intOf]; omega
    · have hkn : k = n := by omega
      subst hkn
      have hli : ¬ (k : Int) < (k : Int) := by omega
      subst hQ
      go_wp2_with fail
      go_ret
      exact ⟨rfl, row, hB⟩
set_option maxHeartbeats 400000 in
theorem markPeerS_zero (a : Option Addr) (c : Nat) (q0 : Int) (w : World) :
    Calls Try.prog 57 #[.slice a 0 c, .int .i64 q0] w fun e w' => e = .returned (.int .i64 q0) ∧ w = w' := by
  go_enter Try.func57, Try.ntmps57
  go_wp2_with fail
  go_loopw [1, 5] (fun q i wr => i = .int .i64 0 ∧ q = .int .i64 q0 ∧ w = wr) (fun _ i _ => 0)
  case atStart => exact ⟨rfl, rfl, by first | rfl | trivial⟩
  case round =>
    obtain ⟨rfl, rfl, rfl⟩ := hrel
    go_wp2_with fail
    go_ret
    exact ⟨rfl, rfl⟩
set_option maxRecDepth 100000 in
set_option maxHeartbeats 8000000 in
theorem heldPeerS_some (b off n c : Nat) (q0 : Int) (w : World) (hn : n ≤ 1048576) (hq : 0 < q0) (hq1 : q0 ≤ 1073741824) (h : Cs w b off (n * 5) (mkPeer q0)) :
    Calls Try.prog 60 #[.slice (some ⟨b, off, none⟩) n c, .int .i64 q0] w fun e w' => e = .returned (.int .i64 (q0 + (n : Int) * 5)) ∧ w = w' := by
  have HP : Hid (Cs w b off (n * 5) (mkPeer q0)) := h
  clear h
  go_enter Try.func60, Try.ntmps60
  go_wp2_with fail
  go_loopw [1, 5] (fun q i wr => ∃ (k : Nat) (Q : Int), k ≤ n ∧ i = .int .i64 k ∧ q = .int .i64 Q ∧ Q = q0 + (k : Int) * 5 ∧ w = wr) (fun _ i _ => n - (intOf i).toNat)
  case atStart => exact ⟨0, q0, Nat.zero_le _, rfl, rfl, by omega, by first | rfl | trivial⟩
  case round =>
    obtain ⟨k, Q, hk, rfl, rfl, hQ, rfl⟩ := hrel
    have HQ : Hid (Q = q0 + (k : Int) * 5) := hQ
    by_cases hlt : k < n
    · have hli : (k : Int) < (n : Int) := by omega
      have Q0 : 0 < Q := by omega
      have Q1 : Q ≤ 1073741824 + 1048576 * 5 := by omega
      have hP := HP.out
      clear hQ
      have c0 : w.cell? ⟨b, off + k * 5, none⟩ = some (.int .i64 (Q)) := by have q := hP.2 (k * 5) (by omega); rw [show mkPeer q0 (k * 5) = .int .i64 (Q) from mkPeer_i (k := k) (j := 0) (x := Q) (by decide) (by have := HQ.out; omega)] at q; exact q
      have c1 : w.cell? ⟨b, off + k * 5 + 1, none⟩ = some (.int .i64 (Q + 1)) := by have q := hP.2 (k * 5 + 1) (by omega); rw [show mkPeer q0 (k * 5 + 1) = .int .i64 (Q + 1) from mkPeer_i (k := k) (j := 1) (x := Q + 1) (by decide) (by have := HQ.out; omega)] at q; exact q
      have c2 : w.cell? ⟨b, off + k * 5 + 2, none⟩ = some (.int .i64 (Q + 1 + 1)) := by have q := hP.2 (k * 5 + 2) (by omega); rw [show mkPeer q0 (k * 5 + 2) = .int .i64 (Q + 1 + 1) from mkPeer_i (k := k) (j := 2) (x := Q + 1 + 1) (by decide) (by have := HQ.out; omega)] at q; exact q
      have c3 : w.cell? ⟨b, off + k * 5 + 3, none⟩ = some (.int .i64 (Q + 1 + 1 + 1)) := by have q := hP.2 (k * 5 + 3) (by omega); rw [show mkPeer q0 (k * 5 + 3) = .int .i64 (Q + 1 + 1 + 1) from mkPeer_i (k := k) (j := 3) (x := Q + 1 + 1 + 1) (by decide) (by have := HQ.out; omega)] at q; exact q
      have c4 : w.cell? ⟨b, off + k * 5 + 4, none⟩ = some (.bool ((Q + 1 + 1 + 1 + 1) % 3 == 0)) := by have q := hP.2 (k * 5 + 4) (by omega); rw [show mkPeer q0 (k * 5 + 4) = .bool ((Q + 1 + 1 + 1 + 1) % 3 == 0) from mkPeer_b (k := k) (x := Q + 1 + 1 + 1 + 1) (by have := HQ.out; omega)] at q; exact q
      have hbl := hP.1
      clear hP
      go_wp2_with fail
      go_roundw
      case rel => exact ⟨k + 1, _, by omega, by go_num, rfl, by have := HQ.out; omega, by first | rfl | trivial⟩
      case measure => simp [intOf]; omega
    · have hkn : k = n := by omega
      subst hkn
      have hli : ¬ (k : Int) < (k : Int) := by omega
      subst hQ
      go_wp2_with fail
      go_ret
      exact ⟨rfl, rfl⟩
set_option maxHeartbeats 400000 in
theorem heldPeerS_zero (a : Option Addr) (c : Nat) (q0 : Int) (w : World) :
    Calls Try.prog 60 #[.slice a 0 c, .int .i64 q0] w fun e w' => e = .returned (.int .i64 q0) ∧ w = w' := by
  go_enter Try.func60, Try.ntmps60
  go_wp2_with fail
  go_loopw [1, 5] (fun q i wr => i = .int .i64 0 ∧ q = .int .i64 q0 ∧ w = wr) (fun _ i _ => 0)
  case atStart => exact ⟨rfl, rfl, by first | rfl | trivial⟩
  case round =>
    obtain ⟨rfl, rfl, rfl⟩ := hrel
    go_wp2_with fail
    go_ret
    exact ⟨rfl, rfl⟩
theorem heldPeerS_any (a : Option Addr) (n c : Nat) (q0 : Int) (w : World) (hn : n ≤ 1048576) (hq : 0 < q0) (hq1 : q0 ≤ 1073741824) (h : SrcC w a (n * 5) (mkPeer q0)) :
    Calls Try.prog 60 #[.slice a n c, .int .i64 q0] w fun e w' => e = .returned (.int .i64 (q0 + (n : Int) * 5)) ∧ w = w' := by
  rcases h with h0 | ⟨b, off, rfl, hp⟩
  · have hn0 : n = 0 := by omega
    subst hn0
    exact (heldPeerS_zero a c q0 w).mono fun e w' ⟨h1, h2⟩ => ⟨by rw [h1]; simp, h2⟩
  · exact heldPeerS_some b off n c q0 w hn hq hq1 hp
end Go.Proofs.Ytlllbahfjihepaa
namespace Go.Proofs.Ytlllbahfjihepaa
open Go.RowKit
set_option linter.unusedVariables false
def okD (n d : Int) : Bool := decide (1 ≤ d ∧ d ≤ 1000000 ∧ 0 ≤ n ∧ 2 * n ≤ d)
def okT (t : Int) : Bool := decide (0 ≤ t ∧ t ≤ 1000000000000)
set_option maxHeartbeats 400000 in
theorem specDriftOk_any (n d : Int) (w : World) :
    Calls Try.prog 21 #[.agg #[.int .i64 n, .int .i64 d]] w fun e w' => e = .returned (.bool (okD n d)) ∧ Below w.heap.size w w' := by
  go_enter Try.func21, Try.ntmps21
  go_wp2
  all_goals go_ret
  all_goals exact ⟨ret_bool (by rw [Bool.eq_iff_iff]; simp [okD]; try omega), by repeat (first | exact Below.refl _ _ | refine Below.drew ?_ | refine Below.alloc ?_ (by first | (simp; done) | (simp; omega) | omega) _ | refine Below.setCell ?_ (by first | (simp; done) | (simp; omega) | omega) _ | refine Below.trans ?_ (Below.mono (by assumption) (by first | (simp; done) | (simp; omega) | omega)))⟩
set_option maxHeartbeats 400000 in
theorem okd_any (n d : Int) (w : World) :
    Calls Try.prog 65 #[.agg #[.int .i64 n, .int .i64 d]] w fun e w' => e = .returned (.bool (okD n d)) ∧ Below w.heap.size w w' := by
  have hd : d.tdiv 2 = if 0 ≤ d then d / 2 else -(-d / 2) := by
    split
    · exact Int.tdiv_eq_ediv_of_nonneg ‹_›
    · have h := Int.neg_tdiv (a := -d) (b := 2)
      have k : (-d).tdiv 2 = -d / 2 := Int.tdiv_eq_ediv_of_nonneg (by omega)
      rw [Int.neg_neg, k] at h
      exact h
  go_enter Try.func65, Try.ntmps65
  go_wp2
  all_goals go_ret
  all_goals exact ⟨ret_bool (by rw [Bool.eq_iff_iff]; simp [okD]; try (split at hd <;> omega)), by repeat (first | exact Below.refl _ _ | refine Below.drew ?_ | refine Below.alloc ?_ (by first | (simp; done) | (simp; omega) | omega) _ | refine Below.setCell ?_ (by first | (simp; done) | (simp; omega) | omega) _ | refine Below.trans ?_ (Below.mono (by assumption) (by first | (simp; done) | (simp; omega) | omega)))⟩
set_option maxHeartbeats 400000 in
theorem toDrift_any (n d : Int) (w : World) :
    Calls Try.prog 25 #[.agg #[.int .i64 n, .int .i64 d]] w fun e w' => e = .returned (.agg #[.int .i64 n, .int .i64 d]) ∧ Below w.heap.size w w' := by
  go_enter Try.func25, Try.ntmps25
  go_wp2
  exact bodyPost_ret (v := .agg #[.int .i64 n, .int .i64 d]) (by simp [results, Try.results25, go_sem]) rfl ⟨rfl, by repeat (first | exact Below.refl _ _ | refine Below.drew ?_ | refine Below.alloc ?_ (by first | (simp; done) | (simp; omega) | omega) _ | refine Below.setCell ?_ (by first | (simp; done) | (simp; omega) | omega) _ | refine Below.trans ?_ (Below.mono (by assumption) (by first | (simp; done) | (simp; omega) | omega)))⟩
set_option maxHeartbeats 400000 in
theorem eqDrift_same (n d : Int) (w : World) :
    Calls Try.prog 28 #[.agg #[.int .i64 n, .int .i64 d], .agg #[.int .i64 n, .int .i64 d]] w fun e w' => e = .returned (.bool true) ∧ Below w.heap.size w w' := by
  go_enter Try.func28, Try.ntmps28
  go_wp2
  go_ret
  exact ⟨rfl, by repeat (first | exact Below.refl _ _ | refine Below.drew ?_ | refine Below.alloc ?_ (by first | (simp; done) | (simp; omega) | omega) _ | refine Below.setCell ?_ (by first | (simp; done) | (simp; omega) | omega) _ | refine Below.trans ?_ (Below.mono (by assumption) (by first | (simp; done) | (simp; omega) | omega)))⟩
set_option maxHeartbeats 400000 in
theorem isTime_any (t : Int) (w : World) :
    Calls Try.prog 64 #[.int .i64 t] w fun e w' => e = .returned (.bool (okT t)) ∧ w = w' := by
  go_enter Try.func64, Try.ntmps64
  go_wp2
  all_goals go_ret
  all_goals exact ⟨ret_bool (by rw [Bool.eq_iff_iff]; simp [okT]; try omega), rfl⟩
set_option maxHeartbeats 400000 in
theorem l2Time_any (t : Int) (w : World) :
    Calls Try.prog 24 #[.int .i64 t] w fun e w' => e = .returned (.bool (okT t)) ∧ w = w' := by
  go_enter Try.func24, Try.ntmps24
  go_wp2
  all_goals go_ret
  all_goals exact ⟨ret_bool (by rw [Bool.eq_iff_iff]; simp [okT]; try omega), rfl⟩
end Go.Proofs.Ytlllbahfjihepaa
namespace Go.Proofs.Ytlllbahfjihepaa
open Go.RowKit
set_option linter.unusedVariables false
set_option maxHeartbeats 400000 in
theorem l1In_any (x l h : Int) (w : World) :
    Calls Try.prog 23 #[.int .i64 x, .int .i64 l, .int .i64 h] w fun e w' => e = .returned (.bool (decide (l ≤ x ∧ x ≤ h))) ∧ w = w' := by
  go_enter Try.func23, Try.ntmps23
  go_wp2
  all_goals go_ret
  all_goals exact ⟨ret_bool (by rw [Bool.eq_iff_iff]; simp; try omega), rfl⟩
end Go.Proofs.Ytlllbahfjihepaa
namespace Go.Proofs.Ytlllbahfjihepaa
open Go.RowKit
set_option linter.unusedVariables false
def nodB (n : Int) : Bool := decide (0 ≤ n ∧ n ≤ 7)
set_option maxHeartbeats 400000 in
theorem isNode_any (n : Int) (w : World) :
    Calls Try.prog 55 #[.int .i64 n] w fun e w' => e = .returned (.bool (nodB n)) ∧ w = w' := by
  go_enter Try.func55, Try.ntmps55
  go_wp2
  all_goals go_ret
  all_goals exact ⟨ret_bool (by rw [Bool.eq_iff_iff]; simp [nodB]; try omega), rfl⟩
set_option maxHeartbeats 400000 in
theorem l4Node_any (n : Int) (w : World) :
    Calls Try.prog 33 #[.int .i64 n] w fun e w' => e = .returned (.bool (nodB n)) ∧ w = w' := by
  go_enter Try.func33, Try.ntmps33
  go_wp2_with (first | (go_at_call 23; refine (l1In_any _ _ _ _).mono ?_; rintro e w' ⟨rfl, rfl⟩))
  go_ret
  exact ⟨ret_bool (by simp [nodB]), rfl⟩
def Box8 (w : World) (j : Nat) (k fr tuu no lo hi sl : Int) (s : ByteArray) : Prop := j < w.heap.size ∧ w.cell? ⟨j, 0, none⟩ = some (.int .i64 k) ∧ w.cell? ⟨j, 1, none⟩ = some (.int .i64 fr) ∧ w.cell? ⟨j, 2, none⟩ = some (.int .i64 tuu) ∧ w.cell? ⟨j, 3, none⟩ = some (.int .i64 no) ∧ w.cell? ⟨j, 4, none⟩ = some (.int .i64 lo) ∧ w.cell? ⟨j, 5, none⟩ = some (.int .i64 hi) ∧ w.cell? ⟨j, 6, none⟩ = some (.int .i64 sl) ∧ w.cell? ⟨j, 7, none⟩ = some (.string s)
theorem Box8.belowB {j B : Nat} {w w' : World} {k fr tuu no lo hi sl : Int} {s : ByteArray} (h : Box8 w j k fr tuu no lo hi sl s) (hw : Below B w w') (hk : j < B) : Box8 w' j k fr tuu no lo hi sl s := by
  obtain ⟨h0, h1, h2, h3, h4, h5, h6, h7, h8⟩ := h
  exact ⟨Nat.lt_of_lt_of_le h0 hw.size, by rw [hw.cell (p := ⟨j, 0, none⟩) hk]; exact h1, by rw [hw.cell (p := ⟨j, 1, none⟩) hk]; exact h2, by rw [hw.cell (p := ⟨j, 2, none⟩) hk]; exact h3, by rw [hw.cell (p := ⟨j, 3, none⟩) hk]; exact h4, by rw [hw.cell (p := ⟨j, 4, none⟩) hk]; exact h5, by rw [hw.cell (p := ⟨j, 5, none⟩) hk]; exact h6, by rw [hw.cell (p := ⟨j, 6, none⟩) hk]; exact h7, by rw [hw.cell (p := ⟨j, 7, none⟩) hk]; exact h8⟩
theorem Box8.below {j : Nat} {w w' : World} {k fr tuu no lo hi sl : Int} {s : ByteArray} (h : Box8 w j k fr tuu no lo hi sl s) (hw : Below w.heap.size w w') : Box8 w' j k fr tuu no lo hi sl s := h.belowB hw h.1
theorem Box8.new (w : World) (k fr tuu no lo hi sl : Int) (s : ByteArray) (T : TypeId) : Box8 (w.alloc (.cells #[.int .i64 k, .int .i64 fr, .int .i64 tuu, .int .i64 no, .int .i64 lo, .int .i64 hi, .int .i64 sl, .string s] T)) w.heap.size k fr tuu no lo hi sl s := ⟨by simp, by simp, by simp, by simp, by simp, by simp, by simp, by simp, by simp⟩
end Go.Proofs.Ytlllbahfjihepaa
namespace Go.Proofs.Ytlllbahfjihepaa
open Go.RowKit
set_option linter.unusedVariables false
def pOk (M : PT) : Bool := nodB M.1 && okI M.2.1 M.2.2.1 && okT M.2.2.2.1
def prv (M : Nat → PT) : Nat → Int
  | 0 => -1
  | k + 1 => (M k).1
def elP (M : Nat → PT) (k : Nat) : Bool := pOk (M k) && decide (prv M k < (M k).1)
def oks (M : Nat → PT) : Nat → Bool
  | 0 => true
  | k + 1 => oks M k && elP M k
theorem oks_step {M : Nat → PT} {k : Nat} (h : oks M k = true) (h2 : elP M k = true) : oks M (k + 1) = true := by rw [oks, h, h2]; rfl
theorem oks_no {M : Nat → PT} {k : Nat} (h : elP M k = false) : ∀ n, k < n → oks M n = false
  | 0, hk => absurd hk (Nat.not_lt_zero _)
  | n + 1, hk => by
    rw [oks]
    by_cases e : k = n
    · subst e; rw [h]; simp
    · rw [oks_no h n (by omega)]; rfl
theorem oks_el {M : Nat → PT} : ∀ {n : Nat}, oks M n = true → ∀ k, k < n → elP M k = true
  | 0, _, k, hk => absurd hk (Nat.not_lt_zero _)
  | n + 1, h, k, hk => by
    rw [oks, Bool.and_eq_true] at h
    by_cases e : k = n
    · subst e; exact h.2
    · exact oks_el h.1 k (by omega)
theorem nodB_t {x : Int} (h : nodB x = true) : 0 ≤ x ∧ x ≤ 7 := of_decide_eq_true h
theorem elP_t {M : Nat → PT} {k : Nat} (h : elP M k = true) : pOk (M k) = true ∧ prv M k < (M k).1 := by simpa [elP] using h
theorem pOk_t {m : PT} (h : pOk m = true) : nodB m.1 = true ∧ okI m.2.1 m.2.2.1 = true ∧ okT m.2.2.2.1 = true := by
  unfold pOk at h
  simp only [Bool.and_eq_true] at h
  exact ⟨h.1.1, h.1.2, h.2⟩
theorem oks_ge {M : Nat → PT} {n : Nat} (h : oks M n = true) : ∀ k, k < n → (k : Int) ≤ (M k).1
  | 0, hk => by
    have := nodB_t (pOk_t (elP_t (oks_el h 0 hk)).1).1
    omega
  | k + 1, hk => by
    have h1 := oks_ge h k (by omega)
    have h2 : (M k).1 < (M (k + 1)).1 := (elP_t (oks_el h (k + 1) hk)).2
    omega
theorem oks_le {M : Nat → PT} {n : Nat} (h : oks M n = true) : n ≤ 8 := by
  by_cases hn : n ≤ 8
  · exact hn
  · have h1 := oks_ge h (n - 1) (by omega)
    have h2 := nodB_t (pOk_t (elP_t (oks_el h (n - 1) (by omega))).1).1
    omega
theorem oks_long {M : Nat → PT} {n : Nat} (h : ¬ n ≤ 8) : oks M n = false := by
  cases e : oks M n
  · rfl
  · exact absurd (oks_le e) h
set_option maxHeartbeats 2000000 in
theorem peerOk_any (x0 x1 x2 x3 : Int) (x4 : Bool) (w : World) :
    Calls Try.prog 102 #[.agg #[.int .i64 x0, .int .i64 x1, .int .i64 x2, .int .i64 x3, .bool x4]] w fun e w' => e = .returned (.bool (pOk (x0, x1, x2, x3, x4))) ∧ Below w.heap.size w w' := by
  have HB : Hid (pOk (x0, x1, x2, x3, x4) = (nodB x0 && okI x1 x2 && okT x3)) := rfl
  have A0 := Below.nw w (.cells #[.int .i64 x0, .int .i64 x1, .int .i64 x2, .int .i64 x3, .bool x4] 94)
  cases h1 : nodB x0
  · go_enter Try.func102, Try.ntmps102
    go_wp2_with fail
    refine (isNode_any _ _).mono ?_
    rintro e w' ⟨rfl, rfl⟩
    rw [h1]
    go_wp2_with fail
    go_ret
    exact ⟨ret_bool (by rw [HB.out, h1]; rfl), A0⟩
  · have P := Bx5.new w (.int .i64 x0) (.int .i64 x1) (.int .i64 x2) (.int .i64 x3) (.bool x4) 94
    cases h2 : okI x1 x2
    · go_enter Try.func102, Try.ntmps102
      go_wp2_with fail
      refine (isNode_any _ _).mono ?_
      rintro e w' ⟨rfl, rfl⟩
      rw [h1]
      go_wp2_with fail
      refine (ok_any _ _ _).mono ?_
      rintro e w1 ⟨rfl, hb⟩
      rw [h2]
      have A1 := A0.trans (hb.mono A0.size)
      clear hb
      go_wp2_with fail
      go_ret
      exact ⟨ret_bool (by rw [HB.out, h2]; simp), A1⟩
    · go_enter Try.func102, Try.ntmps102
      go_wp2_with fail
      refine (isNode_any _ _).mono ?_
      rintro e w' ⟨rfl, rfl⟩
      rw [h1]
      go_wp2_with fail
      refine (ok_any _ _ _).mono ?_
      rintro e w1 ⟨rfl, hb⟩
      rw [h2]
      have A1 := A0.trans (hb.mono A0.size)
      obtain ⟨k9, k0, k1, k2, k3, k4, f0, f1, f2, f3, f4⟩ := P.below hb
      clear hb P
      go_wp2_with fail
      refine (isTime_any _ _).mono ?_
      rintro e w' ⟨rfl, rfl⟩
      go_wp2_with fail
      go_ret
      exact ⟨ret_bool (by rw [HB.out, h1, h2]; simp), A1⟩
set_option maxHeartbeats 4000000 in
theorem implPeersOk_some (b off n c : Nat) (M : Nat → PT) (w : World) (hn : n ≤ maxLen) (hf : Cs w b off (n * 5) (MFPeer M)) :
    Calls Try.prog 93 #[.slice (some ⟨b, off, none⟩) n c] w fun e w' => e = .returned (.bool (oks M n)) ∧ Below w.heap.size w w' := by
  unfold maxLen at hn
  go_enter Try.func93, Try.ntmps93
  go_wp2_with fail
  go_loopw [3, 8] (fun l i wr => ∃ k : Nat, k ≤ n ∧ i = .int .i64 k ∧ l = .int .i64 (prv M k) ∧ oks M k = true ∧ Below w.heap.size w wr) (fun _ i _ => n - (intOf i).toNat)
  case atStart => exact ⟨0, Nat.zero_le _, rfl, rfl, rfl, Below.refl _ _⟩
  case round =>
    obtain ⟨k, hk, rfl, rfl, hok, hB⟩ := hrel
    have HOK : Hid (oks M k = true) := hok
    clear hok
    by_cases hlt : k < n
    · obtain ⟨x0, x1, x2, x3, x4, hM⟩ := tupPeer M k
      obtain ⟨c0, c1, c2, c3, c4⟩ := (hf.below hB hf.1).elPeer hlt hM
      have hli : (k : Int) < (n : Int) := by omega
      have HEL : Hid (elP M k = (pOk (x0, x1, x2, x3, x4) && decide (prv M k < x0))) := by rw [Hid, elP, hM]
      have HPV : Hid (prv M (k + 1) = x0) := by rw [Hid, prv, hM]
      have HNO : Hid (elP M k = false → oks M n = false) := fun h => oks_no h n hlt
      have hbr : b < wr.heap.size := Nat.lt_of_lt_of_le hf.1 hB.size
      clear hM
      have A1 := Below.nw wr (.cells #[.int .i64 x0, .int .i64 x1, .int .i64 x2, .int .i64 x3, .bool x4] 94)
      have K := Bx5.new wr (.int .i64 x0) (.int .i64 x1) (.int .i64 x2) (.int .i64 x3) (.bool x4) 94
      have B1 := hB.trans (A1.mono hB.size)
      generalize prv M k = pl at *
      go_upto_region 5 with fail
      clear c0 c1 c2 c3 c4
      generalize hbk : wr.heap.size = bk at *
      generalize wr.alloc (.cells #[.int .i64 x0, .int .i64 x1, .int .i64 x2, .int .i64 x3, .bool x4] 94) = w1 at *
      clear A1
      obtain ⟨k9, k0, k1, k2, k3, k4, f0, f1, f2, f3, f4⟩ := id K
      cases h1 : pOk (x0, x1, x2, x3, x4)
      · have HB' : Hid (oks M n = false) := HNO.out (by rw [HEL.out, h1]; rfl)
        go_wp2_with fail
        refine (peerOk_any _ _ _ _ _ _).mono ?_
        rintro e w2 ⟨rfl, hb⟩
        rw [h1]
        have B2 := B1.trans (hb.mono B1.size)
        clear hb k0 k1 k2 k3 k4 f0 f1 f2 f3 f4
        go_wp2_with fail
        go_ret
        exact ⟨ret_bool HB'.out.symm, B2⟩
      · by_cases h2 : x0 ≤ pl
        · have HB' : Hid (oks M n = false) := HNO.out (by rw [HEL.out, h1]; simp; omega)
          go_wp2_with fail
          refine (peerOk_any _ _ _ _ _ _).mono ?_
          rintro e w2 ⟨rfl, hb⟩
          rw [h1]
          have B2 := B1.trans (hb.mono B1.size)
          clear k9 k0 k1 k2 k3 k4 f0 f1 f2 f3 f4
          obtain ⟨k9, k0, k1, k2, k3, k4, f0, f1, f2, f3, f4⟩ := K.below hb
          clear hb
          go_wp2_with fail
          go_ret
          exact ⟨ret_bool HB'.out.symm, B2⟩
        · have HST : Hid (oks M (k + 1) = true) := oks_step HOK.out (by rw [HEL.out, h1]; simp; omega)
          go_wp2_with fail
          refine (peerOk_any _ _ _ _ _ _).mono ?_
          rintro e w2 ⟨rfl, hb⟩
          rw [h1]
          have B2 := B1.trans (hb.mono B1.size)
          clear k9 k0 k1 k2 k3 k4 f0 f1 f2 f3 f4
          obtain ⟨k9, k0, k1, k2, k3, k4, f0, f1, f2, f3, f4⟩ := K.below hb
          clear hb
          go_wp2_with fail
          go_roundw
          case rel => exact ⟨k + 1, by omega, by go_num, by rw [HPV.out], HST.out, B2⟩
          case measure => simp [intOf]; omega
    · have hkn : k = n := by omega
      subst hkn
      have hli : ¬ (k : Int) < (k : Int) := by omega
      generalize prv M k = pl at *
      go_wp2_with fail
      go_ret
      exact ⟨ret_bool HOK.out.symm, hB⟩
set_option maxHeartbeats 400000 in
theorem implPeersOk_zero (a : Option Addr) (c : Nat) (M : Nat → PT) (w : World) :
    Calls Try.prog 93 #[.slice a 0 c] w fun e w' => e = .returned (.bool (oks M 0)) ∧ Below w.heap.size w w' := by
  go_enter Try.func93, Try.ntmps93
  go_wp2_with fail
  go_loopw [3, 8] (fun l i wr => l = .int .i64 (-1) ∧ i = .int .i64 0 ∧ w = wr) (fun _ i _ => 0)
  case atStart => exact ⟨rfl, rfl, by first | rfl | trivial⟩
  case round =>
    obtain ⟨rfl, rfl, rfl⟩ := hrel
    go_wp2_with fail
    go_ret
    exact ⟨rfl, Below.refl _ _⟩
theorem implPeersOk_any (a : Option Addr) (n c : Nat) (M : Nat → PT) (w : World) (hn : n ≤ maxLen) (h : SrcC w a (n * 5) (MFPeer M)) :
    Calls Try.prog 93 #[.slice a n c] w fun e w' => e = .returned (.bool (oks M n)) ∧ Below w.heap.size w w' := by
  rcases h with h0 | ⟨b, off, rfl, h2⟩
  · have hn0 : n = 0 := by omega
    subst hn0
    exact implPeersOk_zero a c M w
  · exact implPeersOk_some b off n c M w hn h2
end Go.Proofs.Ytlllbahfjihepaa
namespace Go.Proofs.Ytlllbahfjihepaa
open Go.RowKit
set_option linter.unusedVariables false
theorem But.grK {w w' : World} {q : Nat} (h : But q w w') : w.grownBy w' (some q) := ⟨h.1, h.2.1, h.2.2.1, h.2.2.2.1, fun k hk hp => h.2.2.2.2 k hk (fun e => hp (by rw [e]))⟩
def SrcK (w : World) (a : Option Addr) (m : Nat) (F : Nat → Value) (L : Nat) : Prop := m = 0 ∨ ∃ b off, a = some ⟨b, off, none⟩ ∧ b < L ∧ Cs w b off m F
theorem SrcK.src {w : World} {a : Option Addr} {m L : Nat} {F : Nat → Value} (h : SrcK w a m F L) : SrcC w a m F := by
  rcases h with h | ⟨b, off, h1, _, h2⟩
  · exact .inl h
  · exact .inr ⟨b, off, h1, h2⟩
theorem SrcK.below {w w' : World} {a : Option Addr} {m L : Nat} {F : Nat → Value} (h : SrcK w a m F L) (hb : Below w.heap.size w w') : SrcK w' a m F L := by
  rcases h with h | ⟨b, off, h1, h3, h2⟩
  · exact .inl h
  · exact .inr ⟨b, off, h1, h3, h2.below hb h2.1⟩
theorem Cs.kept {w w' : World} {o : Option Nat} {b off N : Nat} {F : Nat → Value} (h : Cs w b off N F) (hg : w.grownBy w' o) (hne : some b ≠ o) : Cs w' b off N F :=
  ⟨Nat.lt_of_lt_of_le h.1 hg.size, fun j hj => by
    have := hg.block b h.1 hne
    have q := h.2 j hj
    simp only [World.cell?] at q ⊢
    rw [this]; exact q⟩
theorem SrcK.kept {w w' : World} {o : Option Nat} {a : Option Addr} {m L : Nat} {F : Nat → Value} (h : SrcK w a m F L) (hg : w.grownBy w' o) (hne : ∀ b, b < L → some b ≠ o) : SrcK w' a m F L := by
  rcases h with h | ⟨b, off, h1, h3, h2⟩
  · exact .inl h
  · exact .inr ⟨b, off, h1, h3, h2.kept hg (hne b h3)⟩
theorem SrcC.keptK {w w' : World} {o : Option Nat} {a : Option Addr} {m : Nat} {F : Nat → Value} (h : SrcC w a m F) (hg : w.grownBy w' o) (hne : ∀ b off, a = some ⟨b, off, none⟩ → some b ≠ o) : SrcC w' a m F := by
  rcases h with h | ⟨b, off, h1, h2⟩
  · exact .inl h
  · exact .inr ⟨b, off, h1, h2.kept hg (hne b off h1)⟩
theorem cell_grown {w w' : World} {o : Option Nat} {b i : Nat} (hg : w.grownBy w' o) (hb : b < w.heap.size) (hne : some b ≠ o) : w'.cell? ⟨b, i, none⟩ = w.cell? ⟨b, i, none⟩ := by
  have := hg.block b hb hne
  simp only [World.cell?]
  rw [this]
theorem bel_grown {w w' : World} (h : Below w.heap.size w w') : w.grownBy w' none := ⟨h.os, h.tape, h.output, h.size, fun k hk _ => h.block k hk⟩
abbrev VT : Type := Int × Int
def zV : VT := (0, 0)
def MCIval (M : VT) : Nat → Value
  | 0 => .int .i64 M.1
  | _ => .int .i64 M.2
def MFIval (M : Nat → VT) (c : Nat) : Value := MCIval (M (c / 2)) (c % 2)
theorem MFIval_at (M : Nat → VT) (k j : Nat) (hj : j < 2) : MFIval M (k * 2 + j) = MCIval (M k) j := by
  have h1 : (k * 2 + j) / 2 = k := by omega
  have h2 : (k * 2 + j) % 2 = j := by omega
  rw [MFIval, h1, h2]
theorem MFIval_vals {M : Nat → VT} {k : Nat} {x0 : Int} {x1 : Int} (hM : M k = (x0, x1)) : MFIval M (k * 2) = .int .i64 x0 ∧ MFIval M (k * 2 + 1) = .int .i64 x1 :=
  ⟨by have q := MFIval_at M k 0 (by decide); rw [hM] at q; exact q, by have q := MFIval_at M k 1 (by decide); rw [hM] at q; exact q⟩
theorem Cs.elIval {w : World} {b off n k : Nat} {M : Nat → VT} {x0 : Int} {x1 : Int} (h : Cs w b off (n * 2) (MFIval M)) (hk : k < n) (hM : M k = (x0, x1)) : w.cell? ⟨b, off + k * 2, none⟩ = some (.int .i64 x0) ∧ w.cell? ⟨b, off + k * 2 + 1, none⟩ = some (.int .i64 x1) := by
  obtain ⟨q0, q1⟩ := MFIval_vals hM
  exact ⟨by have := h.2 (k * 2) (by omega); rw [q0] at this; exact this, by have := h.2 (k * 2 + 1) (by omega); rw [q1] at this; exact this⟩
theorem tupIval (M : Nat → VT) (k : Nat) : ∃ (x0 : Int) (x1 : Int), M k = (x0, x1) := ⟨_, _, rfl⟩
def mkIval (q : Int) (c : Nat) : Value := .int .i64 (q + (c : Int))
theorem mkIval_i {q : Int} {k j : Nat} {x : Int} (h : x = q + ((k * 2 + j : Nat) : Int)) : mkIval q (k * 2 + j) = .int .i64 x := by rw [mkIval, h]
theorem markPeerS_own (a : Option Addr) (n c base : Nat) (q0 : Int) (xs : List Value) (w : World) (hn : n ≤ 1048576) (hq : 0 < q0) (hq1 : q0 ≤ 1073741824) (h : w.ownsRow base 94 5 (.slice a n c) n xs) :
    Calls Try.prog 57 #[.slice a n c, .int .i64 q0] w fun e w' => e = .returned (.int .i64 (q0 + (n : Int) * 5)) ∧ SrcC w' a (n * 5) (mkPeer q0) ∧ w.grownBy w' (Value.slice a n c).ownBlock := by
  rcases h.2 with ⟨he, h0⟩ | ⟨g, cap, cur, he, _⟩
  · simp at he
    obtain ⟨rfl, rfl, rfl⟩ := he
    exact (markPeerS_zero none 0 q0 w).mono fun e w' ⟨h1, h2⟩ => ⟨by rw [h1]; simp, .inl (by omega), h2 ▸ bel_grown (Below.refl _ _)⟩
  · simp at he
    obtain ⟨rfl, rfl⟩ := he
    obtain ⟨h1, h2, _, h3⟩ := ownF_row (mkPeer q0) h
    exact (markPeerS_row g (c * 5) n c q0 w hn hq hq1 (Nat.mul_le_mul_right _ h2) h3).mono fun e w' ⟨r1, r2, r3⟩ => ⟨r1, .inr ⟨g, 0, rfl, r2.cs (Nat.mul_le_mul_right _ h2)⟩, r3.grK⟩
end Go.Proofs.Ytlllbahfjihepaa
namespace Go.Proofs.Ytlllbahfjihepaa
open Go.RowKit
set_option linter.unusedVariables false
def Bx2 (w : World) (k : Nat) (u0 u1 : Value) : Prop := k < w.heap.size ∧ w.cell? ⟨k, 0, none⟩ = some u0 ∧ w.cell? ⟨k, 1, none⟩ = some u1 ∧ w.frozen? ⟨k, 0, none⟩ = false ∧ w.frozen? ⟨k, 1, none⟩ = false
theorem Bx2.belowB {k B : Nat} {w w' : World} {u0 u1 : Value} (h : Bx2 w k u0 u1) (hw : Below B w w') (hk : k < B) : Bx2 w' k u0 u1 := by
  obtain ⟨h0, h1, h2, f1, f2⟩ := h
  exact ⟨Nat.lt_of_lt_of_le h0 hw.size, by rw [hw.cell (p := ⟨k, 0, none⟩) hk]; exact h1, by rw [hw.cell (p := ⟨k, 1, none⟩) hk]; exact h2, by rw [hw.frozen (p := ⟨k, 0, none⟩) hk]; exact f1, by rw [hw.frozen (p := ⟨k, 1, none⟩) hk]; exact f2⟩
theorem Bx2.below {k : Nat} {w w' : World} {u0 u1 : Value} (h : Bx2 w k u0 u1) (hw : Below w.heap.size w w') : Bx2 w' k u0 u1 := h.belowB hw h.1
theorem Bx2.alloc {k : Nat} {w : World} {u0 u1 : Value} (h : Bx2 w k u0 u1) (o : Obj) : Bx2 (w.alloc o) k u0 u1 := h.below ((Below.refl _ _).alloc (Nat.le_refl _) _)
theorem Bx2.new (w : World) (u0 u1 : Value) (T : TypeId) : Bx2 (w.alloc (.cells #[u0, u1] T)) w.heap.size u0 u1 := ⟨by simp, by simp, by simp, by simp, by simp⟩
theorem Bx2.drew {k : Nat} {w : World} {u0 u1 : Value} (h : Bx2 w k u0 u1) : Bx2 w.drew k u0 u1 := h
theorem Bx2.setO {k j : Nat} {w : World} {u0 u1 : Value} (h : Bx2 w k u0 u1) (hk : j ≠ k) (o : Nat) (u : Value) : Bx2 (w.setCell ⟨j, o, none⟩ u) k u0 u1 := by
  have hne : ∀ q, (⟨j, o, none⟩ : Addr) ≠ ⟨k, q, none⟩ := fun q e => hk (congrArg Addr.block e)
  obtain ⟨h0, h1, h2, f1, f2⟩ := h
  exact ⟨by simpa using h0, by rw [World.cell?_setCell_other _ _ _ _ (hne _)]; exact h1, by rw [World.cell?_setCell_other _ _ _ _ (hne _)]; exact h2, by simpa using f1, by simpa using f2⟩
theorem Bx2.set0 {k : Nat} {w : World} {u0 u1 : Value} (h : Bx2 w k u0 u1) (x : Value) : Bx2 (w.setCell ⟨k, 0, none⟩ x) k x u1 := by
  obtain ⟨h0, h1, h2, f1, f2⟩ := h
  exact ⟨by simpa using h0, World.cell?_setCell_same _ _ _ h1, (World.cell?_setCell_other _ _ _ _ (by simp)).trans h2, by simpa using f1, by simpa using f2⟩
theorem Bx2.set1 {k : Nat} {w : World} {u0 u1 : Value} (h : Bx2 w k u0 u1) (x : Value) : Bx2 (w.setCell ⟨k, 1, none⟩ x) k u0 x := by
  obtain ⟨h0, h1, h2, f1, f2⟩ := h
  exact ⟨by simpa using h0, (World.cell?_setCell_other _ _ _ _ (by simp)).trans h1, World.cell?_setCell_same _ _ _ h2, by simpa using f1, by simpa using f2⟩
theorem Bx2.kept {w w' : World} {q : Option Nat} {k : Nat} {u0 u1 : Value} (h : Bx2 w k u0 u1) (hg : w.grownBy w' q) (hq : some k ≠ q) : Bx2 w' k u0 u1 := by
  obtain ⟨h0, h1, h2, f1, f2⟩ := h
  have cc : ∀ i, w'.cell? ⟨k, i, none⟩ = w.cell? ⟨k, i, none⟩ := fun i => cell_grown hg h0 hq
  have ff : ∀ i, w'.frozen? ⟨k, i, none⟩ = w.frozen? ⟨k, i, none⟩ := fun i => by have := hg.block k h0 hq; simp only [World.frozen?]; rw [this]
  exact ⟨Nat.lt_of_lt_of_le h0 hg.size, by rw [cc]; exact h1, by rw [cc]; exact h2, by rw [ff]; exact f1, by rw [ff]; exact f2⟩
end Go.Proofs.Ytlllbahfjihepaa
namespace Go.Proofs.Ytlllbahfjihepaa
open Go.RowKit
set_option linter.unusedVariables false
def inT (l : Int) : Bool := decide (-1000000000000 ≤ l ∧ l ≤ 1000000000000)
def apB (h : Bool) (l : Int) : Bool := inT l && (h || (l == 0))
set_option maxHeartbeats 2000000 in
theorem specAppOk_any (h : Bool) (l : Int) (w : World) : Calls Try.prog 38 #[.agg #[.bool h, .int .i64 l]] w fun e w' => e = .returned (.bool (apB h l)) ∧ Below w.heap.size w w' := by
  have A := Below.nw w (.cells #[.bool h, .int .i64 l] 65)
  have N := Bx2.new w (.bool h) (.int .i64 l) 65
  have C1 := fun w' => l1In_any l (-1000000000000) 1000000000000 w'
  unfold apB
  have e0 : decide (-1000000000000 ≤ l ∧ l ≤ 1000000000000) = inT l := rfl
  rw [e0] at C1
  clear e0
  generalize inT l = q at *
  cases q
  · go_enter Try.func38, Try.ntmps38
    go_upto_region 1 with fail
    generalize w.alloc (.cells #[.bool h, .int .i64 l] 65) = v at *
    obtain ⟨n0, n1, n2, n3, n4⟩ := id N
    go_wp2_with fail
    refine (C1 _).mono ?_
    rintro e w' ⟨rfl, rfl⟩
    go_wp2_with fail
    go_ret
    exact ⟨rfl, A⟩
  · cases h
    · cases hz : (l == 0)
      all_goals
        go_enter Try.func38, Try.ntmps38
        go_upto_region 1 with fail
        generalize w.alloc (.cells #[.bool false, .int .i64 l] 65) = v at *
        obtain ⟨n0, n1, n2, n3, n4⟩ := id N
        go_wp2_with fail
        refine (C1 _).mono ?_
        rintro e w' ⟨rfl, rfl⟩
        go_wp2_with fail
        go_ret
        exact ⟨by first | rfl | (rw [hz]; rfl) | (simp; done), A⟩
    · go_enter Try.func38, Try.ntmps38
      go_upto_region 1 with fail
      generalize w.alloc (.cells #[.bool true, .int .i64 l] 65) = v at *
      obtain ⟨n0, n1, n2, n3, n4⟩ := id N
      go_wp2_with fail
      refine (C1 _).mono ?_
      rintro e w' ⟨rfl, rfl⟩
      go_wp2_with fail
      go_ret
      exact ⟨rfl, A⟩
end Go.Proofs.Ytlllbahfjihepaa
namespace Go.Proofs.Ytlllbahfjihepaa
open Go.RowKit
set_option linter.unusedVariables false
def tmB (t : Int) : Bool := decide (0 ≤ t ∧ t ≤ 1000000000000)
set_option maxHeartbeats 400000 in
theorem isTime_any5 (n : Int) (w : World) :
    Calls Try.prog 64 #[.int .i64 n] w fun e w' => e = .returned (.bool (tmB n)) ∧ w = w' := by
  go_enter Try.func64, Try.ntmps64
  go_wp2
  all_goals go_ret
  all_goals exact ⟨ret_bool (by rw [Bool.eq_iff_iff]; simp [tmB]; try omega), rfl⟩
set_option maxHeartbeats 400000 in
theorem l2Time_any5 (n : Int) (w : World) :
    Calls Try.prog 24 #[.int .i64 n] w fun e w' => e = .returned (.bool (tmB n)) ∧ w = w' := by
  go_enter Try.func24, Try.ntmps24
  go_wp2_with (first | (go_at_call 23; refine (l1In_any _ _ _ _).mono ?_; rintro e w' ⟨rfl, rfl⟩))
  go_ret
  exact ⟨ret_bool (by simp [tmB]), rfl⟩
def Box5 (w : World) (j : Nat) (x0 x1 x2 : Int) (x3 : ByteArray) (x4 : Int) : Prop := j < w.heap.size ∧ w.cell? ⟨j, 0, none⟩ = some (.int .i64 x0) ∧ w.cell? ⟨j, 1, none⟩ = some (.int .i64 x1) ∧ w.cell? ⟨j, 2, none⟩ = some (.int .i64 x2) ∧ w.cell? ⟨j, 3, none⟩ = some (.string x3) ∧ w.cell? ⟨j, 4, none⟩ = some (.int .i64 x4)
theorem Box5.belowB {j B : Nat} {w w' : World} {x0 x1 x2 : Int} {x3 : ByteArray} {x4 : Int} (h : Box5 w j x0 x1 x2 x3 x4) (hw : Below B w w') (hk : j < B) : Box5 w' j x0 x1 x2 x3 x4 := by
  obtain ⟨h0, h1, h2, h3, h4, h5⟩ := h
  exact ⟨Nat.lt_of_lt_of_le h0 hw.size, by rw [hw.cell (p := ⟨j, 0, none⟩) hk]; exact h1, by rw [hw.cell (p := ⟨j, 1, none⟩) hk]; exact h2, by rw [hw.cell (p := ⟨j, 2, none⟩) hk]; exact h3, by rw [hw.cell (p := ⟨j, 3, none⟩) hk]; exact h4, by rw [hw.cell (p := ⟨j, 4, none⟩) hk]; exact h5⟩
theorem Box5.below {j : Nat} {w w' : World} {x0 x1 x2 : Int} {x3 : ByteArray} {x4 : Int} (h : Box5 w j x0 x1 x2 x3 x4) (hw : Below w.heap.size w w') : Box5 w' j x0 x1 x2 x3 x4 := h.belowB hw h.1
theorem Box5.new (w : World) (x0 x1 x2 : Int) (x3 : ByteArray) (x4 : Int) (T : TypeId) : Box5 (w.alloc (.cells #[.int .i64 x0, .int .i64 x1, .int .i64 x2, .string x3, .int .i64 x4] T)) w.heap.size x0 x1 x2 x3 x4 := ⟨by simp, by simp, by simp, by simp, by simp, by simp⟩
end Go.Proofs.Ytlllbahfjihepaa
namespace Go.Proofs.Ytlllbahfjihepaa
open Go.RowKit
set_option linter.unusedVariables false
def epB (e : Int) : Bool := decide (0 ≤ e ∧ e ≤ 100000)
def kB (k : Int) : Bool := decide (0 ≤ k ∧ k ≤ 999)
def nnB (e k : Int) : Bool := epB e && kB k
def nnI (e k : Int) : Int := bif nnB e k then e * 1000 + k else 0
def npB (n : Int) : Bool := decide (0 ≤ n ∧ n ≤ 100000999)
def npE (n : Int) : Int := bif npB n then Int.tdiv n 1000 else 0
def npK (n : Int) : Int := bif npB n then Int.tmod n 1000 else 0
theorem np_nn (n : Int) : nnB (Int.tdiv n 1000) (Int.tmod n 1000) = npB n := by
  rw [Bool.eq_iff_iff]
  simp only [nnB, epB, kB, npB, Bool.and_eq_true, decide_eq_true_eq]
  rcases Int.le_total 0 n with h | h
  · rw [Int.tdiv_eq_ediv_of_nonneg h, Int.tmod_eq_emod_of_nonneg h]; omega
  · obtain ⟨m, rfl⟩ : ∃ m : Int, n = -m := ⟨-n, by omega⟩
    rw [Int.neg_tdiv, Int.neg_tmod, Int.tdiv_eq_ediv_of_nonneg (by omega), Int.tmod_eq_emod_of_nonneg (by omega)]; omega
set_option maxHeartbeats 400000 in
theorem isEpoch_any (n : Int) (w : World) :
    Calls Try.prog 98 #[.int .i64 n] w fun e w' => e = .returned (.bool (epB n)) ∧ w = w' := by
  go_enter Try.func98, Try.ntmps98
  go_wp2
  all_goals go_ret
  all_goals exact ⟨ret_bool (by rw [Bool.eq_iff_iff]; simp [epB]; try omega), rfl⟩
set_option maxHeartbeats 1000000 in
theorem implNonceOf_any (a k : Int) (w : World) :
    Calls Try.prog 103 #[.int .i64 a, .int .i64 k] w fun e w' => e = .returned (.tuple #[.int .i64 (nnI a k), .bool (nnB a k)]) ∧ w = w' := by
  cases h1 : epB a
  · have HB : nnB a k = false := by rw [nnB, h1]; rfl
    have HI : nnI a k = 0 := by rw [nnI, HB]; rfl
    rw [HB, HI]
    go_enter Try.func103, Try.ntmps103
    go_wp2_with fail
    refine (isEpoch_any _ _).mono ?_
    rintro e w' ⟨rfl, rfl⟩
    rw [h1]
    go_wp2_with fail
    go_ret2
    exact ⟨rfl, rfl⟩
  · by_cases h3 : k < 0
    · have h2 : kB k = false := by simp [kB]; omega
      have HB : nnB a k = false := by rw [nnB, h2, Bool.and_false]
      have HI : nnI a k = 0 := by rw [nnI, HB]; rfl
      rw [HB, HI]
      go_enter Try.func103, Try.ntmps103
      go_wp2_with fail
      refine (isEpoch_any _ _).mono ?_
      rintro e w' ⟨rfl, rfl⟩
      rw [h1]
      go_wp2_with fail
      go_ret2
      exact ⟨rfl, rfl⟩
    · by_cases h4 : 1000 ≤ k
      · have h2 : kB k = false := by simp [kB]; omega
        have HB : nnB a k = false := by rw [nnB, h2, Bool.and_false]
        have HI : nnI a k = 0 := by rw [nnI, HB]; rfl
        rw [HB, HI]
        go_enter Try.func103, Try.ntmps103
        go_wp2_with fail
        refine (isEpoch_any _ _).mono ?_
        rintro e w' ⟨rfl, rfl⟩
        rw [h1]
        go_wp2_with fail
        go_ret2
        exact ⟨rfl, rfl⟩
      · have h2 : kB k = true := by simp [kB]; omega
        have HB : nnB a k = true := by rw [nnB, h1, h2]; rfl
        have HI : nnI a k = a * 1000 + k := by rw [nnI, HB]; rfl
        rw [HB, HI]
        have g1 : 0 ≤ a ∧ a ≤ 100000 := of_decide_eq_true h1
        have q1 : IntKind.i64.wrap (a * 1000) = a * 1000 := Go.IntWalk.i64_in _ ⟨by omega, by omega⟩
        have q2 : IntKind.i64.wrap (a * 1000 + k) = a * 1000 + k := Go.IntWalk.i64_in _ ⟨by omega, by omega⟩
        clear g1
        go_enter Try.func103, Try.ntmps103
        go_wp2_with fail
        refine (isEpoch_any _ _).mono ?_
        rintro e w' ⟨rfl, rfl⟩
        rw [h1]
        go_wp2_with fail
        go_ret2
        exact ⟨rfl, rfl⟩
set_option maxHeartbeats 1000000 in
theorem specNonceParts_any (n : Int) (w : World) :
    Calls Try.prog 70 #[.int .i64 n] w fun e w' => e = .returned (.tuple #[.int .i64 (npE n), .int .i64 (npK n), .bool (npB n)]) ∧ w = w' := by
  cases h1 : npB n
  · have HE : npE n = 0 := by rw [npE, h1]; rfl
    have HK : npK n = 0 := by rw [npK, h1]; rfl
    rw [HE, HK]
    unfold npB at h1
    go_enter Try.func70, Try.ntmps70
    go_wp2_with fail
    refine (l1In_any _ _ _ _).mono ?_
    rintro e w' ⟨rfl, rfl⟩
    rw [h1]
    go_wp2_with fail
    go_ret3
    exact ⟨rfl, rfl⟩
  · have HE : npE n = Int.tdiv n 1000 := by rw [npE, h1]; rfl
    have HK : npK n = Int.tmod n 1000 := by rw [npK, h1]; rfl
    rw [HE, HK]
    unfold npB at h1
    have g := of_decide_eq_true h1
    have q1 : IntKind.i64.wrap (Int.tdiv n 1000) = Int.tdiv n 1000 := by rw [Int.tdiv_eq_ediv_of_nonneg g.1]; exact Go.IntWalk.i64_in _ ⟨by omega, by omega⟩
    have q2 : IntKind.i64.wrap (Int.tmod n 1000) = Int.tmod n 1000 := by rw [Int.tmod_eq_emod_of_nonneg g.1]; exact Go.IntWalk.i64_in _ ⟨by omega, by omega⟩
    clear g
    go_enter Try.func70, Try.ntmps70
    go_wp2_with fail
    refine (l1In_any _ _ _ _).mono ?_
    rintro e w' ⟨rfl, rfl⟩
    rw [h1]
    go_wp2_with fail
    go_ret3
    exact ⟨rfl, rfl⟩
set_option maxHeartbeats 1000000 in
theorem implNonceParts_any (n : Int) (w : World) (hw : (Lit.int .i64 n).wf = true) :
    Calls Try.prog 100 #[.int .i64 n] w fun e w' => e = .returned (.tuple #[.int .i64 (npE n), .int .i64 (npK n), .bool (npB n)]) ∧ w = w' := by
  have hr : -9223372036854775808 ≤ n ∧ n ≤ 9223372036854775807 := by simp only [Lit.wf, Bool.and_eq_true, decide_eq_true_eq] at hw; exact hw
  have q1 : IntKind.i64.wrap (Int.tdiv n 1000) = Int.tdiv n 1000 := Go.IntWalk.i64_in _ (by
    rcases Int.le_total 0 n with h | h
    · rw [Int.tdiv_eq_ediv_of_nonneg h]; exact ⟨by omega, by omega⟩
    · obtain ⟨m, rfl⟩ : ∃ m : Int, n = -m := ⟨-n, by omega⟩
      rw [Int.neg_tdiv, Int.tdiv_eq_ediv_of_nonneg (by omega)]; exact ⟨by omega, by omega⟩)
  have q2 : IntKind.i64.wrap (Int.tmod n 1000) = Int.tmod n 1000 := Go.IntWalk.i64_in _ (by
    rcases Int.le_total 0 n with h | h
    · rw [Int.tmod_eq_emod_of_nonneg h]; exact ⟨by omega, by omega⟩
    · obtain ⟨m, rfl⟩ : ∃ m : Int, n = -m := ⟨-n, by omega⟩
      rw [Int.neg_tmod, Int.tmod_eq_emod_of_nonneg (by omega)]; exact ⟨by omega, by omega⟩)
  have hn := np_nn n
  cases h1 : npB n
  · have HE : npE n = 0 := by rw [npE, h1]; rfl
    have HK : npK n = 0 := by rw [npK, h1]; rfl
    rw [HE, HK]
    rw [h1] at hn
    have hi : nnI (Int.tdiv n 1000) (Int.tmod n 1000) = 0 := by rw [nnI, hn]; rfl
    clear hr hw
    go_enter Try.func100, Try.ntmps100
    go_wp2_with fail
    refine (implNonceOf_any _ _ _).mono ?_
    rintro e w' ⟨rfl, rfl⟩
    rw [hn]
    go_wp2_with fail
    go_ret3
    exact ⟨rfl, rfl⟩
  · have HE : npE n = Int.tdiv n 1000 := by rw [npE, h1]; rfl
    have HK : npK n = Int.tmod n 1000 := by rw [npK, h1]; rfl
    rw [HE, HK]
    rw [h1] at hn
    clear hr hw
    go_enter Try.func100, Try.ntmps100
    go_wp2_with fail
    refine (implNonceOf_any _ _ _).mono ?_
    rintro e w' ⟨rfl, rfl⟩
    rw [hn]
    go_wp2_with fail
    go_ret3
    exact ⟨rfl, rfl⟩
end Go.Proofs.Ytlllbahfjihepaa
