/- The cursor of the draws: what l1Byte, l1Below, l1Once and l1PickInt le -/
import Derived.Deep.QuietTactic
import Derived.BigQuiet
import Derived.Deep.OwnRows
import Derived.Deep.RegionHeld
import Derived.Laws.BytesArg
import Derived.Deep.RegionHeld3
import Derived.Test.YtikbjljkakabdaaGreatMB0
import Derived.Test.YtikbjljkakabdaaGreatMB1
namespace Go.Proofs.YtikbjljkakabdaaGreat
open Go.RowKit
set_option linter.unusedVariables false
set_option maxRecDepth 100000
set_option maxHeartbeats 16000000
def But (p : Nat) (w w' : World) : Prop := w'.os = w.os ∧ w'.tape = w.tape ∧ w'.output = w.output ∧ w.heap.size ≤ w'.heap.size ∧ ∀ k, k < w.heap.size → k ≠ p → w'.heap[k]? = w.heap[k]?
theorem But.refl (p : Nat) (w : World) : But p w w := ⟨rfl, rfl, rfl, Nat.le_refl _, fun _ _ _ => rfl⟩
theorem But.trans {p : Nat} {a b c : World} (h : But p a b) (k : But p b c) : But p a c :=
 ⟨k.1.trans h.1, k.2.1.trans h.2.1, k.2.2.1.trans h.2.2.1, Nat.le_trans h.2.2.2.1 k.2.2.2.1, fun i hi hp => (k.2.2.2.2 i (Nat.lt_of_lt_of_le hi h.2.2.2.1) hp).trans (h.2.2.2.2 i hi hp)⟩
theorem But.drewN {p : Nat} {a w : World} (h : But p a w) (n : Nat) : But p a (w.drewN n) := h
theorem But.setCell {p : Nat} {a w : World} (h : But p a w) (o : Nat) (u : Value) : But p a (w.setCell ⟨p, o, none⟩ u) :=
 ⟨h.1, h.2.1, h.2.2.1, by rw [World.size_setCell]; exact h.2.2.2.1, fun k hk hp => (Below.heap_setCell w ⟨p, o, none⟩ u k hp).trans (h.2.2.2.2 k hk hp)⟩
theorem But.below {p B : Nat} {w w' : World} (h : But p w w') (hB : B ≤ p) (hs : B ≤ w.heap.size) : Below B w w' := ⟨h.1, h.2.1, h.2.2.1, h.2.2.2.1, fun k hk => h.2.2.2.2 k (by omega) (by omega)⟩
theorem But.cell {p k o : Nat} {w w' : World} (h : But p w w') (hk : k < w.heap.size) (hp : k ≠ p) : w'.cell? ⟨k, o, none⟩ = w.cell? ⟨k, o, none⟩ := World.cell?_of_block (w := w) (h.2.2.2.2 k hk hp)
theorem But.frozen {p k o : Nat} {w w' : World} (h : But p w w') (hk : k < w.heap.size) (hp : k ≠ p) : w'.frozen? ⟨k, o, none⟩ = w.frozen? ⟨k, o, none⟩ := World.frozen?_of_block (w := w) (h.2.2.2.2 k hk hp)
def nB (w : World) (B : Nat) (a : Option Addr) (n : Nat) : Prop := n = 0 ∨ ∃ b off, a = some ⟨b, off, none⟩ ∧ b < B ∧ ∀ i, i < n → ∃ z : Int, w.cell? ⟨b, off + i, none⟩ = some (.int .u8 z) ∧ 0 ≤ z ∧ z ≤ 255
theorem nB.below {w w' : World} {B : Nat} {a : Option Addr} {n : Nat} (h : nB w B a n) (hb : Below B w w') : nB w' B a n := by
 rcases h with h | ⟨b, off, h1, h2, h3⟩
 ·exact .inl h
 ·exact .inr ⟨b, off, h1, h2, fun i hi => by
   obtain ⟨z, e, hz⟩ := h3 i hi
   exact ⟨z, by rw [hb.cell (p := ⟨b, off + i, none⟩) h2]; exact e, hz⟩⟩
def dJ (w : World) (B p : Nat) (a : Option Addr) (n c i : Nat) (h : Int) : Prop :=
 w.cell? ⟨p, 0, none⟩ = some (.slice a n c) ∧ w.cell? ⟨p, 1, none⟩ = some (.int .i64 i) ∧ w.cell? ⟨p, 2, none⟩ = some (.int .i64 h) ∧
 w.frozen? ⟨p, 0, none⟩ = false ∧ w.frozen? ⟨p, 1, none⟩ = false ∧ w.frozen? ⟨p, 2, none⟩ = false ∧ i ≤ n ∧ n ≤ 1048576 ∧ nB w B a n ∧ B ≤ p ∧ p < w.heap.size
def jS (w : World) (B p : Nat) : Prop := ∃ a n c i h, dJ w B p a n c i h
theorem jS.lt {w : World} {B p : Nat} (h : jS w B p) : p < w.heap.size ∧ B ≤ p := by
 obtain ⟨a, n, c, i, hh, h⟩ := h
 exact ⟨h.2.2.2.2.2.2.2.2.2.2, h.2.2.2.2.2.2.2.2.2.1⟩
theorem jS.below {w w' : World} {B p : Nat} (h : jS w B p) (hb : Below w.heap.size w w') : jS w' B p := by
 obtain ⟨a, n, c, i, hh, h0, h1, h2, f0, f1, f2, hi, hn, hc, hB, hp⟩ := h
 refine ⟨a, n, c, i, hh, ?_, ?_, ?_, ?_, ?_, ?_, hi, hn, hc.below (hb.mono (by omega)), hB, Nat.lt_of_lt_of_le hp hb.size⟩
 ·rw [hb.cell (p := ⟨p, 0, none⟩) hp]; exact h0
 ·rw [hb.cell (p := ⟨p, 1, none⟩) hp]; exact h1
 ·rw [hb.cell (p := ⟨p, 2, none⟩) hp]; exact h2
 ·rw [hb.frozen (p := ⟨p, 0, none⟩) hp]; exact f0
 ·rw [hb.frozen (p := ⟨p, 1, none⟩) hp]; exact f1
 ·rw [hb.frozen (p := ⟨p, 2, none⟩) hp]; exact f2
theorem dJ.set2 {w : World} {B p : Nat} {a : Option Addr} {n c i : Nat} {h : Int} (hc : dJ w B p a n c i h) (k : Int) : dJ (w.setCell ⟨p, 2, none⟩ (.int .i64 k)) B p a n c i k := by
 obtain ⟨h0, h1, h2, f0, f1, f2, hi, hn, hcode, hB, hp⟩ := hc
 refine ⟨?_, ?_, ?_, by simpa using f0, by simpa using f1, by simpa using f2, hi, hn, hcode.below ((Below.refl _ _).setCell hB _), hB, by simpa using hp⟩
 ·rw [zO (by simp)]; exact h0
 ·rw [zO (by simp)]; exact h1
 ·exact World.cell?_setCell_same _ _ _ h2
theorem dJ.set1 {w : World} {B p : Nat} {a : Option Addr} {n c i : Nat} {h : Int} (hc : dJ w B p a n c i h) (k : Nat) (hk : k ≤ n) : dJ (w.setCell ⟨p, 1, none⟩ (.int .i64 k)) B p a n c k h := by
 obtain ⟨h0, h1, h2, f0, f1, f2, hi, hn, hcode, hB, hp⟩ := hc
 refine ⟨?_, ?_, ?_, by simpa using f0, by simpa using f1, by simpa using f2, hk, hn, hcode.below ((Below.refl _ _).setCell hB _), hB, by simpa using hp⟩
 ·rw [zO (by simp)]; exact h0
 ·exact World.cell?_setCell_same _ _ _ h1
 ·rw [zO (by simp)]; exact h2
theorem dJ.drewN {w : World} {B p : Nat} {a : Option Addr} {n c i : Nat} {h : Int} (hc : dJ w B p a n c i h) (m : Nat) : dJ (w.drewN m) B p a n c i h := hc
def Byts (w : World) (b off n : Nat) (f : Nat → Int) : Prop := b < w.heap.size ∧ ∀ i, i < n → w.cell? ⟨b, off + i, none⟩ = some (.int .u8 (f i))
theorem Byts.below {w w' : World} {B b off n : Nat} {f : Nat → Int} (h : Byts w b off n f) (hb : Below B w w') (hB : b < B) : Byts w' b off n f :=
 ⟨Nat.lt_of_lt_of_le h.1 hb.size, fun i hi => by rw [hb.cell (p := ⟨b, off + i, none⟩) hB]; exact h.2 i hi⟩
def SrcB (w : World) (a : Option Addr) (n : Nat) (f : Nat → Int) : Prop := n = 0 ∨ ∃ b off, a = some ⟨b, off, none⟩ ∧ Byts w b off n f
theorem SrcB.below {w w' : World} {a : Option Addr} {n : Nat} {f : Nat → Int} (h : SrcB w a n f) (hb : Below w.heap.size w w') : SrcB w' a n f := by
 rcases h with h | ⟨b, off, h1, h2⟩
 ·exact .inl h
 ·exact .inr ⟨b, off, h1, h2.below hb h2.1⟩
theorem Below.nw (w : World) (o : Obj) : Below w.heap.size w (w.alloc o) := (Below.refl _ _).alloc (Nat.le_refl _) _
def Cs (w : World) (b off N : Nat) (F : Nat → Value) : Prop := b < w.heap.size ∧ ∀ j, j < N → w.cell? ⟨b, off + j, none⟩ = some (F j)
theorem Cs.below {w w' : World} {B b off N : Nat} {F : Nat → Value} (h : Cs w b off N F) (hb : Below B w w') (hB : b < B) : Cs w' b off N F :=
 ⟨Nat.lt_of_lt_of_le h.1 hb.size, fun j hj => by rw [hb.cell (p := ⟨b, off + j, none⟩) hB]; exact h.2 j hj⟩
theorem Cs.drew {w : World} {b off N : Nat} {F : Nat → Value} (h : Cs w b off N F) : Cs w.drew b off N F := h
theorem Cs.but {w w' : World} {p b off N : Nat} {F : Nat → Value} (h : Cs w b off N F) (hb : But p w w') (hp : b ≠ p) : Cs w' b off N F :=
 ⟨Nat.lt_of_lt_of_le h.1 hb.2.2.2.1, fun j hj => by rw [hb.cell h.1 hp]; exact h.2 j hj⟩
def az (w : World) (a : Option Addr) (N : Nat) (F : Nat → Value) : Prop := N = 0 ∨ ∃ b off, a = some ⟨b, off, none⟩ ∧ Cs w b off N F
theorem az.below {w w' : World} {a : Option Addr} {N : Nat} {F : Nat → Value} (h : az w a N F) (hb : Below w.heap.size w w') : az w' a N F := by
 rcases h with h | ⟨b, off, h1, h2⟩
 ·exact .inl h
 ·exact .inr ⟨b, off, h1, h2.below hb h2.1⟩
def ax (w : World) (b : Nat) (T : TypeId) (N m : Nat) (F : Nat → Value) : Prop := ∃ g, w.rowIs b T N g ∧ ∀ j, j < m → g j = F j
theorem ax.lt {w : World} {b N m : Nat} {T : TypeId} {F : Nat → Value} (h : ax w b T N m F) : b < w.heap.size := by obtain ⟨g, hr, _⟩ := h; exact hr.lt
theorem ax.below {w w' : World} {B b N m : Nat} {T : TypeId} {F : Nat → Value} (hb : Below B w w') (hB : b < B) (h : ax w b T N m F) : ax w' b T N m F := by
 obtain ⟨g, hr, hg⟩ := h
 exact ⟨g, hr.of_block (hb.block b hB), hg⟩
theorem ax.below' {w w' : World} {b N m : Nat} {T : TypeId} {F : Nat → Value} (hb : Below w.heap.size w w') (h : ax w b T N m F) : ax w' b T N m F := ax.below hb h.lt h
theorem ax.zero {w : World} {b N m : Nat} {T : TypeId} {F : Nat → Value} (h : ax w b T N m F) (G : Nat → Value) : ax w b T N 0 G := by
 obtain ⟨g, hr, hg⟩ := h
 exact ⟨g, hr, fun j hj => absurd hj (Nat.not_lt_zero _)⟩
theorem ax.facts {w : World} {b N m : Nat} {T : TypeId} {F : Nat → Value} (h : ax w b T N m F) (j : Nat) (hj : j < N) : (∃ v, w.cell? ⟨b, j, none⟩ = some v) ∧ w.frozen? ⟨b, j, none⟩ = false := by
 obtain ⟨g, hr, hg⟩ := h
 exact ⟨⟨_, hr.cell hj⟩, hr.frozen _⟩
theorem ax.put {w : World} {b N m : Nat} {T : TypeId} {F : Nat → Value} (h : ax w b T N m F) (m' : Nat) (hm : m' = m + 1) {v : Value} (hv : F m = v) : ax (w.setCell ⟨b, m, none⟩ v) b T N m' F := by
 obtain ⟨g, hr, hg⟩ := h
 refine ⟨_, hr.set _ _, fun j hj => ?_⟩
 by_cases e : j = m
 ·subst e; simp only [if_true]; exact hv.symm
 ·simp only [if_neg e]; exact hg j (by omega)
theorem ax.setO {w : World} {b N m : Nat} {T : TypeId} {F : Nat → Value} (h : ax w b T N m F) {k : Nat} (hk : k ≠ b) (o : Nat) (u : Value) : ax (w.setCell ⟨k, o, none⟩ u) b T N m F := by
 obtain ⟨g, hr, hg⟩ := h
 exact ⟨g, hr.setOther (fun e => hk e.symm) u, hg⟩
theorem ax.cs {w : World} {b N m : Nat} {T : TypeId} {F : Nat → Value} (h : ax w b T N m F) (hm : m ≤ N) : Cs w b 0 m F := by
 obtain ⟨g, hr, hg⟩ := h
 exact ⟨hr.lt, fun j hj => by rw [Nat.zero_add, hr.cell (by omega), hg j hj]⟩
theorem ax.eqm {w : World} {b N m m' : Nat} {T : TypeId} {F : Nat → Value} (h : ax w b T N m F) (e : m = m') : ax w b T N m' F := e ▸ h
theorem d9 {w : World} {base : Nat} {T : TypeId} {s g n cap : Nat} {xs : List Value} (F : Nat → Value) (h : w.ownsRow base T s (.slice (some ⟨g, 0, none⟩) n cap) n xs) : base ≤ g ∧ n ≤ cap ∧ cap ≤ maxLen ∧ ax w g T (cap * s) 0 F := by
 rcases h.2 with ⟨h, _⟩ | ⟨g', cap', cur, he, h2, h3, h4, h5, h6, h7⟩
 ·simp at h
 ·simp at he
  obtain ⟨rfl, rfl⟩ := he
  exact ⟨h2, h4, h5, _, ⟨cur, h3, by omega, fun i hi => by rw [Array.getElem?_eq_getElem (by omega)]; exact congrArg some (by rw [Array.getD_eq_getD_getElem?, Array.getElem?_eq_getElem (by omega)]; rfl : cur[i]'(by omega) = cur.getD i undef)⟩, fun j hj => absurd hj (Nat.not_lt_zero _)⟩
theorem aT {w : World} {base : Nat} {T : TypeId} {s n : Nat} {v : Value} {F : Nat → Value} (h : w.ownsRow base T s v n ((List.range (n * s)).map F)) :
 ∃ a c, v = .slice a n c ∧ n ≤ c ∧ c ≤ maxLen ∧ az w a (n * s) F := by
 rcases h.2 with ⟨rfl, h0⟩ | ⟨g, cap, cur, rfl, hb, hg, hc, hm, hs, ht⟩
 ·exact ⟨none, 0, by rw [h0], by omega, by simp [maxLen], .inl (by rw [h0, Nat.zero_mul])⟩
 ·refine ⟨_, cap, rfl, hc, hm, .inr ⟨g, 0, rfl, (Array.getElem?_eq_some_iff.1 hg).1, fun i hi => ?_⟩⟩
  have hu : ((List.range (n * s)).map F)[i]? = some (F i) := by simp [hi]
  rw [← ht, List.getElem?_take, if_pos (by omega)] at hu
  simp [World.cell?, hg]
  simpa using hu
theorem fY (F : Nat → Value) (n s : Nat) : (List.range ((n + 1) * s)).map F = (List.range (n * s)).map F ++ (List.range s).map fun j => F (n * s + j) := by
 rw [Nat.succ_mul, List.range_add, List.map_append, List.map_map]
 rfl
def Bx5 (w : World) (k : Nat) (u0 u1 u2 u3 u4 : Value) : Prop := k < w.heap.size ∧ w.cell? ⟨k, 0, none⟩ = some u0 ∧ w.cell? ⟨k, 1, none⟩ = some u1 ∧ w.cell? ⟨k, 2, none⟩ = some u2 ∧ w.cell? ⟨k, 3, none⟩ = some u3 ∧ w.cell? ⟨k, 4, none⟩ = some u4 ∧ w.frozen? ⟨k, 0, none⟩ = false ∧ w.frozen? ⟨k, 1, none⟩ = false ∧ w.frozen? ⟨k, 2, none⟩ = false ∧ w.frozen? ⟨k, 3, none⟩ = false ∧ w.frozen? ⟨k, 4, none⟩ = false
theorem Bx5.belowB {k B : Nat} {w w' : World} {u0 u1 u2 u3 u4 : Value} (h : Bx5 w k u0 u1 u2 u3 u4) (hw : Below B w w') (hk : k < B) : Bx5 w' k u0 u1 u2 u3 u4 := by
 obtain ⟨h0, h1, h2, h3, h4, h5, f1, f2, f3, f4, f5⟩ := h
 exact ⟨Nat.lt_of_lt_of_le h0 hw.size, by rw [hw.cell (p := ⟨k, 0, none⟩) hk]; exact h1, by rw [hw.cell (p := ⟨k, 1, none⟩) hk]; exact h2, by rw [hw.cell (p := ⟨k, 2, none⟩) hk]; exact h3, by rw [hw.cell (p := ⟨k, 3, none⟩) hk]; exact h4, by rw [hw.cell (p := ⟨k, 4, none⟩) hk]; exact h5, by rw [hw.frozen (p := ⟨k, 0, none⟩) hk]; exact f1, by rw [hw.frozen (p := ⟨k, 1, none⟩) hk]; exact f2, by rw [hw.frozen (p := ⟨k, 2, none⟩) hk]; exact f3, by rw [hw.frozen (p := ⟨k, 3, none⟩) hk]; exact f4, by rw [hw.frozen (p := ⟨k, 4, none⟩) hk]; exact f5⟩
theorem Bx5.below {k : Nat} {w w' : World} {u0 u1 u2 u3 u4 : Value} (h : Bx5 w k u0 u1 u2 u3 u4) (hw : Below w.heap.size w w') : Bx5 w' k u0 u1 u2 u3 u4 := h.belowB hw h.1
theorem Bx5.but {w w' : World} {k q : Nat} {u0 u1 u2 u3 u4 : Value} (h : Bx5 w k u0 u1 u2 u3 u4) (hb : But q w w') (hq : k ≠ q) : Bx5 w' k u0 u1 u2 u3 u4 := by
 obtain ⟨h0, h1, h2, h3, h4, h5, f1, f2, f3, f4, f5⟩ := h
 exact ⟨Nat.lt_of_lt_of_le h0 hb.2.2.2.1, by rw [hb.cell h0 hq]; exact h1, by rw [hb.cell h0 hq]; exact h2, by rw [hb.cell h0 hq]; exact h3, by rw [hb.cell h0 hq]; exact h4, by rw [hb.cell h0 hq]; exact h5, by rw [hb.frozen h0 hq]; exact f1, by rw [hb.frozen h0 hq]; exact f2, by rw [hb.frozen h0 hq]; exact f3, by rw [hb.frozen h0 hq]; exact f4, by rw [hb.frozen h0 hq]; exact f5⟩
theorem Bx5.alloc {k : Nat} {w : World} {u0 u1 u2 u3 u4 : Value} (h : Bx5 w k u0 u1 u2 u3 u4) (o : Obj) : Bx5 (w.alloc o) k u0 u1 u2 u3 u4 := h.below ((Below.refl _ _).alloc (Nat.le_refl _) _)
theorem Bx5.new (w : World) (u0 u1 u2 u3 u4 : Value) (T : TypeId) : Bx5 (w.alloc (.cells #[u0, u1, u2, u3, u4] T)) w.heap.size u0 u1 u2 u3 u4 := ⟨by simp, by simp, by simp, by simp, by simp, by simp, by simp, by simp, by simp, by simp, by simp⟩
theorem Bx5.drew {k : Nat} {w : World} {u0 u1 u2 u3 u4 : Value} (h : Bx5 w k u0 u1 u2 u3 u4) : Bx5 w.drew k u0 u1 u2 u3 u4 := h
theorem Bx5.setO {k j : Nat} {w : World} {u0 u1 u2 u3 u4 : Value} (h : Bx5 w k u0 u1 u2 u3 u4) (hk : j ≠ k) (o : Nat) (u : Value) : Bx5 (w.setCell ⟨j, o, none⟩ u) k u0 u1 u2 u3 u4 := by
 have hne : ∀ q, (⟨j, o, none⟩ : Addr) ≠ ⟨k, q, none⟩ := fun q e => hk (congrArg Addr.block e)
 obtain ⟨h0, h1, h2, h3, h4, h5, f1, f2, f3, f4, f5⟩ := h
 exact ⟨by simpa using h0, by rw [World.cell?_setCell_other _ _ _ _ (hne _)]; exact h1, by rw [World.cell?_setCell_other _ _ _ _ (hne _)]; exact h2, by rw [World.cell?_setCell_other _ _ _ _ (hne _)]; exact h3, by rw [World.cell?_setCell_other _ _ _ _ (hne _)]; exact h4, by rw [World.cell?_setCell_other _ _ _ _ (hne _)]; exact h5, by simpa using f1, by simpa using f2, by simpa using f3, by simpa using f4, by simpa using f5⟩
theorem Bx5.set0 {k : Nat} {w : World} {u0 u1 u2 u3 u4 : Value} (h : Bx5 w k u0 u1 u2 u3 u4) (x : Value) : Bx5 (w.setCell ⟨k, 0, none⟩ x) k x u1 u2 u3 u4 := by
 obtain ⟨h0, h1, h2, h3, h4, h5, f1, f2, f3, f4, f5⟩ := h
 exact ⟨by simpa using h0, World.cell?_setCell_same _ _ _ h1, (zO (by simp)).trans h2, (zO (by simp)).trans h3, (zO (by simp)).trans h4, (zO (by simp)).trans h5, by simpa using f1, by simpa using f2, by simpa using f3, by simpa using f4, by simpa using f5⟩
theorem Bx5.set1 {k : Nat} {w : World} {u0 u1 u2 u3 u4 : Value} (h : Bx5 w k u0 u1 u2 u3 u4) (x : Value) : Bx5 (w.setCell ⟨k, 1, none⟩ x) k u0 x u2 u3 u4 := by
 obtain ⟨h0, h1, h2, h3, h4, h5, f1, f2, f3, f4, f5⟩ := h
 exact ⟨by simpa using h0, (zO (by simp)).trans h1, World.cell?_setCell_same _ _ _ h2, (zO (by simp)).trans h3, (zO (by simp)).trans h4, (zO (by simp)).trans h5, by simpa using f1, by simpa using f2, by simpa using f3, by simpa using f4, by simpa using f5⟩
theorem Bx5.set2 {k : Nat} {w : World} {u0 u1 u2 u3 u4 : Value} (h : Bx5 w k u0 u1 u2 u3 u4) (x : Value) : Bx5 (w.setCell ⟨k, 2, none⟩ x) k u0 u1 x u3 u4 := by
 obtain ⟨h0, h1, h2, h3, h4, h5, f1, f2, f3, f4, f5⟩ := h
 exact ⟨by simpa using h0, (zO (by simp)).trans h1, (zO (by simp)).trans h2, World.cell?_setCell_same _ _ _ h3, (zO (by simp)).trans h4, (zO (by simp)).trans h5, by simpa using f1, by simpa using f2, by simpa using f3, by simpa using f4, by simpa using f5⟩
theorem Bx5.set3 {k : Nat} {w : World} {u0 u1 u2 u3 u4 : Value} (h : Bx5 w k u0 u1 u2 u3 u4) (x : Value) : Bx5 (w.setCell ⟨k, 3, none⟩ x) k u0 u1 u2 x u4 := by
 obtain ⟨h0, h1, h2, h3, h4, h5, f1, f2, f3, f4, f5⟩ := h
 exact ⟨by simpa using h0, (zO (by simp)).trans h1, (zO (by simp)).trans h2, (zO (by simp)).trans h3, World.cell?_setCell_same _ _ _ h4, (zO (by simp)).trans h5, by simpa using f1, by simpa using f2, by simpa using f3, by simpa using f4, by simpa using f5⟩
theorem Bx5.set4 {k : Nat} {w : World} {u0 u1 u2 u3 u4 : Value} (h : Bx5 w k u0 u1 u2 u3 u4) (x : Value) : Bx5 (w.setCell ⟨k, 4, none⟩ x) k u0 u1 u2 u3 x := by
 obtain ⟨h0, h1, h2, h3, h4, h5, f1, f2, f3, f4, f5⟩ := h
 exact ⟨by simpa using h0, (zO (by simp)).trans h1, (zO (by simp)).trans h2, (zO (by simp)).trans h3, (zO (by simp)).trans h4, World.cell?_setCell_same _ _ _ h5, by simpa using f1, by simpa using f2, by simpa using f3, by simpa using f4, by simpa using f5⟩
abbrev PT : Type := Int × Int × Int × Int × Bool
def zP : PT := (0, 0, 0, 0, false)
theorem ns (x0 x1 x2 x3 : Int) (x4 : Bool) (w : World) :
 Calls Tryz.prog 83 #[.agg #[.int .i64 x0, .int .i64 x1, .int .i64 x2, .int .i64 x3, .bool x4]] w fun e w' => e = .returned (.agg #[.int .i64 x0, .int .i64 x1, .int .i64 x2, .int .i64 x3, .bool x4]) ∧ Below w.heap.size w w' := by
 have P0 := ((Bx5.new w (.int .i64 x0) (.int .i64 x1) (.int .i64 x2) (.int .i64 x3) (.bool x4) 157).alloc (.cells #[.int .i64 0, .int .i64 0, .int .i64 0, .int .i64 0, .bool false] 154)).alloc (.cells #[.int .i64 x0, .int .i64 0, .int .i64 0, .int .i64 0, .bool false] 154)
 have P1 := (Bx5.new (w.alloc (.cells #[.int .i64 x0, .int .i64 x1, .int .i64 x2, .int .i64 x3, .bool x4] 157)) (.int .i64 0) (.int .i64 0) (.int .i64 0) (.int .i64 0) (.bool false) 154).alloc (.cells #[.int .i64 x0, .int .i64 0, .int .i64 0, .int .i64 0, .bool false] 154)
 have P2 := Bx5.new ((w.alloc (.cells #[.int .i64 x0, .int .i64 x1, .int .i64 x2, .int .i64 x3, .bool x4] 157)).alloc (.cells #[.int .i64 0, .int .i64 0, .int .i64 0, .int .i64 0, .bool false] 154)) (.int .i64 x0) (.int .i64 0) (.int .i64 0) (.int .i64 0) (.bool false) 154
 simp only [World.size_alloc] at P1 P2
 go_enter Tryz.func83, Tryz.ntmps83
 go_wp2_with fail
 refine (gB _ _ _).mono ?_
 rintro e w1 ⟨rfl, hb⟩
 have hw1 : Below w.heap.size w w1 := (((Below.nw w _).alloc (by first | (simp; done) | (simp; omega) | omega) _).alloc (by first | (simp; done) | (simp; omega) | omega) _).trans (hb.mono (by first | (simp; done) | (simp; omega) | omega))
 have hs : w.heap.size + 2 < w1.heap.size := by have := hb.size; simp at this; omega
 have Q0 := P0.below hb
 have Q1 := P1.below hb
 have Q2 := P2.below hb
 clear P0 P1 P2 hb
 obtain ⟨a0, a1, a2, a3, a4, a5, e1, e2, e3, e4, e5⟩ := Q0
 obtain ⟨b0, b1, b2, b3, b4, b5, y1, y2, y3, y4, y5⟩ := Q1
 obtain ⟨c0, c1, c2, c3, c4, c5, z1, z2, z3, z4, z5⟩ := Q2
 go_wp2_with fail
 exact bodyPost_ret (v := .agg #[.int .i64 x0, .int .i64 x1, .int .i64 x2, .int .i64 x3, .bool x4]) (by simp (maxDischargeDepth := 6) [results, Tryz.results83, go_sem, *]) rfl ⟨rfl, by repeat (first | refine Below.setCell ?_ (by first | (simp; done) | (simp; omega) | omega) _ | exact hw1)⟩
theorem km (x0 x1 x2 x3 : Int) (x4 : Bool) (w : World) :
 Calls Tryz.prog 95 #[.agg #[.int .i64 x0, .int .i64 x1, .int .i64 x2, .int .i64 x3, .bool x4], .agg #[.int .i64 x0, .int .i64 x1, .int .i64 x2, .int .i64 x3, .bool x4]] w fun e w' => e = .returned (.bool true) ∧ Below w.heap.size w w' := by
 go_enter Tryz.func95, Tryz.ntmps95
 go_wp2_with (first | (go_at_call 93; refine (eR _ _ _).mono ?_; rintro e w' ⟨rfl, hb⟩; obtain ⟨hc, hf⟩ := aj hb; (first | have hB := Below.trans (Below.trans hB zB) (Below.mono hb zL) | have hB := hb); obtain ⟨hC, hF⟩ := aj hB; have hz := hb.size; (try simp at hz); (first | have hz0 := zH4 w w' | have hz0 := zH3 w w' | have hz0 := zH2 w w' | have hz0 := zH1 w w' | skip)))
 go_ret
 exact ⟨rfl, zB⟩
def en (M : PT) : Nat → Value
 | 0 => .int .i64 M.1
 | 1 => .int .i64 M.2.1
 | 2 => .int .i64 M.2.2.1
 | 3 => .int .i64 M.2.2.2.1
 | _ => .bool M.2.2.2.2
def am (M : Nat → PT) (c : Nat) : Value := en (M (c / 5)) (c % 5)
theorem bw (M : Nat → PT) (k j : Nat) (hj : j < 5) : am M (k * 5 + j) = en (M k) j := by
 have h1 : (k * 5 + j) / 5 = k := by omega
 have h2 : (k * 5 + j) % 5 = j := by omega
 rw [am, h1, h2]
theorem eO {M : Nat → PT} {k : Nat} {x0 : Int} {x1 : Int} {x2 : Int} {x3 : Int} {x4 : Bool} (hM : M k = (x0, x1, x2, x3, x4)) : am M (k * 5) = .int .i64 x0 ∧ am M (k * 5 + 1) = .int .i64 x1 ∧ am M (k * 5 + 2) = .int .i64 x2 ∧ am M (k * 5 + 3) = .int .i64 x3 ∧ am M (k * 5 + 4) = .bool x4 :=
 ⟨by have q := bw M k 0 (by decide); rw [hM] at q; exact q, by have q := bw M k 1 (by decide); rw [hM] at q; exact q, by have q := bw M k 2 (by decide); rw [hM] at q; exact q, by have q := bw M k 3 (by decide); rw [hM] at q; exact q, by have q := bw M k 4 (by decide); rw [hM] at q; exact q⟩
theorem Cs.elPeer {w : World} {b off n k : Nat} {M : Nat → PT} {x0 : Int} {x1 : Int} {x2 : Int} {x3 : Int} {x4 : Bool} (h : Cs w b off (n * 5) (am M)) (hk : k < n) (hM : M k = (x0, x1, x2, x3, x4)) : w.cell? ⟨b, off + k * 5, none⟩ = some (.int .i64 x0) ∧ w.cell? ⟨b, off + k * 5 + 1, none⟩ = some (.int .i64 x1) ∧ w.cell? ⟨b, off + k * 5 + 2, none⟩ = some (.int .i64 x2) ∧ w.cell? ⟨b, off + k * 5 + 3, none⟩ = some (.int .i64 x3) ∧ w.cell? ⟨b, off + k * 5 + 4, none⟩ = some (.bool x4) := by
 obtain ⟨q0, q1, q2, q3, q4⟩ := eO hM
 exact ⟨by have := h.2 (k * 5) (by omega); rw [q0] at this; exact this, by have := h.2 (k * 5 + 1) (by omega); rw [q1] at this; exact this, by have := h.2 (k * 5 + 2) (by omega); rw [q2] at this; exact this, by have := h.2 (k * 5 + 3) (by omega); rw [q3] at this; exact this, by have := h.2 (k * 5 + 4) (by omega); rw [q4] at this; exact this⟩
theorem bu (M : Nat → PT) (k : Nat) : ∃ (x0 : Int) (x1 : Int) (x2 : Int) (x3 : Int) (x4 : Bool), M k = (x0, x1, x2, x3, x4) := ⟨_, _, _, _, _, rfl⟩
theorem lM (a : Option Addr) (n c : Nat) (L : Int) (w : World) (hm : n ≤ maxLen) (L0 : 0 ≤ L) (L1 : L ≤ 1048576) :
 Calls Tryz.prog 23 #[.slice a n c, .int .i64 L] w fun e w' => e = .returned (.int .i64 (if (n : Int) ≤ L then L - (n : Int) else -1)) ∧ w = w' := by
 unfold maxLen at hm
 by_cases h : (n : Int) ≤ L
 ·rw [if_pos h]
  have hd : decide (L - (n : Int) < 0) = false := by simp; omega
  go_enter Tryz.func23, Tryz.ntmps23
  go_wp2_with fail
  go_ret
  exact ⟨rfl, rfl⟩
 ·rw [if_neg h]
  have hd : decide (L - (n : Int) < 0) = true := by simp; omega
  go_enter Tryz.func23, Tryz.ntmps23
  go_wp2_with fail
  go_ret
  exact ⟨rfl, rfl⟩
def bI (n : Nat) : Obj := .cells (madeCells #[.int .i64 0, .int .i64 0, .int .i64 0, .int .i64 0, .bool false] (n * 5)) 154
theorem kL : (Tryz.prog.info? 154).map (fun i => (i.zero, i.size, i.bytes)) = some (some (.agg #[.int .i64 0, .int .i64 0, .int .i64 0, .int .i64 0, .bool false]), 5, 40) := by kernel_rfl
theorem gn (n : Nat) (h : n ≤ 1048576) (w : World) : (Instr.makeSlice 53 (.int .i64 (n : Int)) (.int .i64 (n : Int))).run Tryz.prog w = .ok (.slice (some ⟨w.heap.size, 0, none⟩) n n) (w.alloc (bI n)) := by
 obtain ⟨i, hi, hz⟩ := Option.map_eq_some_iff.1 kL
 simp only [Prod.mk.injEq] at hz
 obtain ⟨h1, h2, h3⟩ := hz
 have hr := run_make (P := Tryz.prog) w 53 154 i _ Tryz.underlying53 hi h1 .i64 .i64 n n (by omega) (Int.le_refl _) (by rw [h3]; omega) (by omega)
 simp only [Int.toNat_natCast, h2] at hr
 exact hr
theorem dL (w : World) (n : Nat) (F : Nat → Value) : ax (w.alloc (bI n)) w.heap.size 154 (n * 5) 0 F := by
 have h := World.rowIs_alloc w (madeCells #[.int .i64 0, .int .i64 0, .int .i64 0, .int .i64 0, .bool false] (n * 5)) 154 (fun i => (madeCells #[.int .i64 0, .int .i64 0, .int .i64 0, .int .i64 0, .bool false] (n * 5)).getD i undef) (fun i hi => by
  rw [Array.getElem?_eq_getElem hi]; exact congrArg some (by rw [Array.getD_eq_getD_getElem?, Array.getElem?_eq_getElem hi]; rfl))
 rw [size_madeCells] at h
 exact ⟨_, h, fun j hj => absurd hj (Nat.not_lt_zero _)⟩
theorem jI (b off n c : Nat) (M : Nat → PT) (w : World) (hn : n ≤ 1048576) (hf : Cs w b off (n * 5) (am M)) :
 Calls Tryz.prog 37 #[.slice (some ⟨b, off, none⟩) n c] w fun e w' => e = .returned (.slice (some ⟨w.heap.size, 0, none⟩) n n) ∧ ax w' w.heap.size 154 (n * 5) (n * 5) (am M) ∧ Below w.heap.size w w' := by
 have hmk := gn n hn
 go_enter Tryz.func37, Tryz.ntmps37
 go_wp2_with fail
 clear hmk
 go_loopw [4] (fun i wr => ∃ k : Nat, k ≤ n ∧ i = .int .i64 k ∧ ax wr w.heap.size 154 (n * 5) (k * 5) (am M) ∧ Below w.heap.size w wr) (fun i _ => n - (intOf i).toNat)
 case atStart => exact ⟨0, Nat.zero_le _, rfl, (dL w n _).eqm (by omega), (Below.refl _ _).alloc (Nat.le_refl _) _⟩
 case round =>
  obtain ⟨k, hk, rfl, hrow, hB⟩ := hrel
  by_cases hlt : k < n
  ·obtain ⟨x0, x1, x2, x3, x4, hM⟩ := bu M k
   obtain ⟨c0, c1, c2, c3, c4⟩ := (hf.below hB hf.1).elPeer hlt hM
   obtain ⟨q0, q1, q2, q3, q4⟩ := eO hM
   have hli : (k : Int) < (n : Int) := by omega
   have hlr := hrow.lt
   clear hM
   go_wp2_with fail
   refine (ns x0 x1 x2 x3 x4 _).mono ?_
   rintro e w' ⟨rfl, hb⟩
   have row := ax.below hb hlr hrow
   have hB2 := hB.trans (hb.mono hB.size)
   clear c0 c1 c2 c3 c4 hrow hB hb
   have hlr2 := row.lt
   obtain ⟨⟨v0, e0⟩, f0⟩ := row.facts (k * 5) (by omega)
   obtain ⟨⟨v1, e1⟩, f1⟩ := row.facts (k * 5 + 1) (by omega)
   obtain ⟨⟨v2, e2⟩, f2⟩ := row.facts (k * 5 + 2) (by omega)
   obtain ⟨⟨v3, e3⟩, f3⟩ := row.facts (k * 5 + 3) (by omega)
   obtain ⟨⟨v4, e4⟩, f4⟩ := row.facts (k * 5 + 4) (by omega)
   go_wp2_with fail
   go_roundw
   case rel => exact ⟨k + 1, by omega, by go_num, (((((row.put (k * 5 + 1) (by omega) q0).put (k * 5 + 2) (by omega) q1).put (k * 5 + 3) (by omega) q2).put (k * 5 + 4) (by omega) q3).put ((k + 1) * 5) (by omega) q4), (((((hB2.setCell (Nat.le_refl _) _).setCell (Nat.le_refl _) _).setCell (Nat.le_refl _) _).setCell (Nat.le_refl _) _).setCell (Nat.le_refl _) _)⟩
   case measure => simp [intOf]; omega
  ·have hkn : k = n := by omega
   subst hkn
   have hli : ¬ (k : Int) < (k : Int) := by omega
   go_wp2_with fail
   go_ret
   exact ⟨rfl, hrow, hB⟩
theorem ie (a : Option Addr) (c : Nat) (F : Nat → Value) (w : World) :
 Calls Tryz.prog 37 #[.slice a 0 c] w fun e w' => e = .returned (.slice (some ⟨w.heap.size, 0, none⟩) 0 0) ∧ ax w' w.heap.size 154 (0 * 5) (0 * 5) F ∧ Below w.heap.size w w' := by
 have hmk := gn 0 (by omega)
 simp only [Int.ofNat_zero] at hmk
 go_enter Tryz.func37, Tryz.ntmps37
 go_wp2_with fail
 clear hmk
 go_loopw [4] (fun i wr => i = .int .i64 0 ∧ ax wr w.heap.size 154 (0 * 5) 0 F ∧ Below w.heap.size w wr) (fun i _ => 0)
 case atStart => exact ⟨rfl, dL w 0 F, (Below.refl _ _).alloc (Nat.le_refl _) _⟩
 case round =>
  obtain ⟨rfl, hrow, hB⟩ := hrel
  go_wp2_with fail
  go_ret
  exact ⟨rfl, hrow.eqm (by omega), hB⟩
theorem lS (a : Option Addr) (n c : Nat) (M : Nat → PT) (w : World) (hn : n ≤ 1048576) (h : az w a (n * 5) (am M)) :
 Calls Tryz.prog 37 #[.slice a n c] w fun e w' => e = .returned (.slice (some ⟨w.heap.size, 0, none⟩) n n) ∧ ax w' w.heap.size 154 (n * 5) (n * 5) (am M) ∧ Below w.heap.size w w' := by
 rcases h with h0 | ⟨b, off, rfl, h2⟩
 ·have hn0 : n = 0 := by omega
  subst hn0
  exact ie a c _ w
 ·exact jI b off n c M w hn h2
theorem iS (b off b' off' n c c' : Nat) (M : Nat → PT) (w : World) (hn : n ≤ maxLen) (hf : Cs w b off (n * 5) (am M)) (hg : Cs w b' off' (n * 5) (am M)) :
 Calls Tryz.prog 47 #[.slice (some ⟨b, off, none⟩) n c, .slice (some ⟨b', off', none⟩) n c'] w fun e w' => e = .returned (.bool true) ∧ Below w.heap.size w w' := by
 unfold maxLen at hn
 go_enter Tryz.func47, Tryz.ntmps47
 go_wp2_with fail
 go_loopw [5] (fun i wr => ∃ k : Nat, k ≤ n ∧ i = .int .i64 k ∧ Below w.heap.size w wr) (fun i _ => n - (intOf i).toNat)
 case atStart => exact ⟨0, Nat.zero_le _, rfl, Below.refl _ _⟩
 case round =>
  obtain ⟨k, hk, rfl, hB⟩ := hrel
  by_cases hlt : k < n
  ·obtain ⟨x0, x1, x2, x3, x4, hM⟩ := bu M k
   obtain ⟨c0, c1, c2, c3, c4⟩ := (hf.below hB hf.1).elPeer hlt hM
   obtain ⟨d0, d1, d2, d3, d4⟩ := (hg.below hB hg.1).elPeer hlt hM
   have hb1 : b < wr.drew.heap.size := Nat.lt_of_lt_of_le hf.1 hB.size
   have hb2 : b' < wr.drew.heap.size := Nat.lt_of_lt_of_le hg.1 hB.size
   have hsz : w.heap.size ≤ wr.drew.heap.size := hB.size
   have hli : (k : Int) < (n : Int) := by omega
   clear hM
   go_wp2_with fail
   refine wp_region_held_drew (S := (fun w' => w'.cell? ⟨b, off + k * 5, none⟩ = some (.int .i64 x0) ∧ w'.cell? ⟨b, off + k * 5 + 1, none⟩ = some (.int .i64 x1) ∧ w'.cell? ⟨b, off + k * 5 + 2, none⟩ = some (.int .i64 x2) ∧ w'.cell? ⟨b, off + k * 5 + 3, none⟩ = some (.int .i64 x3) ∧ w'.cell? ⟨b, off + k * 5 + 4, none⟩ = some (.bool x4) ∧ w'.cell? ⟨b', off' + k * 5, none⟩ = some (.int .i64 x0) ∧ w'.cell? ⟨b', off' + k * 5 + 1, none⟩ = some (.int .i64 x1) ∧ w'.cell? ⟨b', off' + k * 5 + 2, none⟩ = some (.int .i64 x2) ∧ w'.cell? ⟨b', off' + k * 5 + 3, none⟩ = some (.int .i64 x3) ∧ w'.cell? ⟨b', off' + k * 5 + 4, none⟩ = some (.bool x4))) (by kernel_rfl) ?_ (fun hHeld => ?_)
   ·first | exact ⟨c0, c1, c2, c3, c4, d0, d1, d2, d3, d4⟩ | (simp (maxDischargeDepth := 6) [go_sem, *]; done)
   refine zT8 0 ?_
   refine zQ 8 fun K hK => ?_
   go_simp
   refine (km _ _ _ _ _ _).mono ?_; rintro e w' ⟨rfl, hb⟩; (replace c0 := (hb.cell (p := ⟨b, off + k * 5, none⟩) hb1).trans c0); (replace c1 := (hb.cell (p := ⟨b, off + k * 5 + 1, none⟩) hb1).trans c1); (replace c2 := (hb.cell (p := ⟨b, off + k * 5 + 2, none⟩) hb1).trans c2); (replace c3 := (hb.cell (p := ⟨b, off + k * 5 + 3, none⟩) hb1).trans c3); (replace c4 := (hb.cell (p := ⟨b, off + k * 5 + 4, none⟩) hb1).trans c4); (replace d0 := (hb.cell (p := ⟨b', off' + k * 5, none⟩) hb2).trans d0); (replace d1 := (hb.cell (p := ⟨b', off' + k * 5 + 1, none⟩) hb2).trans d1); (replace d2 := (hb.cell (p := ⟨b', off' + k * 5 + 2, none⟩) hb2).trans d2); (replace d3 := (hb.cell (p := ⟨b', off' + k * 5 + 3, none⟩) hb2).trans d3); (replace d4 := (hb.cell (p := ⟨b', off' + k * 5 + 4, none⟩) hb2).trans d4)
   (try go_wp2_with fail)
   refine hK.out _ _ ?_ (fun hHeld => ?_)
   ·first | exact ⟨c0, c1, c2, c3, c4, d0, d1, d2, d3, d4⟩ | (simp (maxDischargeDepth := 6) [go_sem, *]; done)
   clear hK K
   (try simp only [zA])
   refine zTk 9 ?_
   refine wpAnyH_done (by kernel_rfl) ?_ _
   go_wp2_with fail
   go_roundw
   case rel => exact ⟨k + 1, by omega, by go_num, (Below.drew hB).trans (hb.mono hsz)⟩
   case measure => simp [intOf]; omega
  ·go_wp2_with fail
   go_ret
   exact ⟨rfl, hB⟩
theorem iT (a a' : Option Addr) (c c' : Nat) (w : World) :
 Calls Tryz.prog 47 #[.slice a 0 c, .slice a' 0 c'] w fun e w' => e = .returned (.bool true) ∧ Below w.heap.size w w' := by
 go_enter Tryz.func47, Tryz.ntmps47
 go_wp2_with fail
 go_loopw [5] (fun i wr => i = .int .i64 0 ∧ w = wr) (fun i _ => 0)
 case atStart => exact ⟨rfl, rfl⟩
 case round =>
  obtain ⟨rfl, rfl⟩ := hrel
  go_wp2_with fail
  go_ret
  exact ⟨rfl, Below.refl _ _⟩
theorem kk (a a' : Option Addr) (n c c' : Nat) (M : Nat → PT) (w : World) (hn : n ≤ maxLen) (h : az w a (n * 5) (am M)) (h' : az w a' (n * 5) (am M)) :
 Calls Tryz.prog 47 #[.slice a n c, .slice a' n c'] w fun e w' => e = .returned (.bool true) ∧ Below w.heap.size w w' := by
 by_cases h0 : n = 0
 ·subst h0; exact iT a a' c c' w
 ·rcases h with h | ⟨b, off, rfl, hp⟩
  ·omega
  ·rcases h' with h | ⟨b', off', rfl, hp'⟩
   ·omega
   ·exact iS b off b' off' n c c' M w hn hp hp'
def bA (q : Int) (c : Nat) : Value := if c % 5 = 4 then .bool ((q + (c : Int)) % 3 == 0) else .int .i64 (q + (c : Int))
theorem cm {q : Int} {k j : Nat} {x : Int} (hj : j < 4) (h : x = q + ((k * 5 + j : Nat) : Int)) : bA q (k * 5 + j) = .int .i64 x := by rw [bA, if_neg (by omega), h]
theorem k7 {q : Int} {k : Nat} {x : Int} (h : x = q + ((k * 5 + 4 : Nat) : Int)) : bA q (k * 5 + 4) = .bool (x % 3 == 0) := by rw [bA, if_pos (by omega), h]
theorem gS (b N n c : Nat) (q0 : Int) (w : World) (hn : n ≤ 1048576) (hq : 0 < q0) (hq1 : q0 ≤ 1073741824) (hN : n * 5 ≤ N) (h : ax w b 154 N 0 (bA q0)) :
 Calls Tryz.prog 55 #[.slice (some ⟨b, 0, none⟩) n c, .int .i64 q0] w fun e w' => e = .returned (.int .i64 (q0 + (n : Int) * 5)) ∧ ax w' b 154 N (n * 5) (bA q0) ∧ But b w w' := by
 go_enter Tryz.func55, Tryz.ntmps55
 go_wp2_with fail
 go_loopw [1, 5] (fun q i wr => ∃ (k : Nat) (Q : Int), k ≤ n ∧ i = .int .i64 k ∧ q = .int .i64 Q ∧ Q = q0 + (k : Int) * 5 ∧ ax wr b 154 N (k * 5) (bA q0) ∧ But b w wr) (fun _ i _ => n - (intOf i).toNat)
 case atStart => exact ⟨0, q0, Nat.zero_le _, rfl, rfl, by omega, h.eqm (by omega), But.refl _ _⟩
 case round =>
  obtain ⟨k, Q, hk, rfl, rfl, hQ, row, hB⟩ := hrel
  clear h
  have HQ : Hid (Q = q0 + (k : Int) * 5) := hQ
  by_cases hlt : k < n
  ·have hli : (k : Int) < (n : Int) := by omega
   have Q0 : 0 < Q := by omega
   have Q1 : Q ≤ 1073741824 + 1048576 * 5 := by omega
   clear hQ
   have hlr := row.lt
   obtain ⟨⟨v0, e0⟩, f0⟩ := row.facts (k * 5) (by omega)
   obtain ⟨⟨v1, e1⟩, f1⟩ := row.facts (k * 5 + 1) (by omega)
   obtain ⟨⟨v2, e2⟩, f2⟩ := row.facts (k * 5 + 2) (by omega)
   obtain ⟨⟨v3, e3⟩, f3⟩ := row.facts (k * 5 + 3) (by omega)
   obtain ⟨⟨v4, e4⟩, f4⟩ := row.facts (k * 5 + 4) (by omega)
   go_wp2_with fail
   go_roundw
   case rel => exact ⟨k + 1, _, by omega, by go_num, rfl, by have := HQ.out; omega, (ax.put (ax.put (ax.put (ax.put (ax.put row (k * 5 + 1) (by omega) (cm (k := k) (j := 0) (by decide) (by have := HQ.out; omega))) (k * 5 + 2) (by omega) (cm (k := k) (j := 1) (by decide) (by have := HQ.out; omega))) (k * 5 + 3) (by omega) (cm (k := k) (j := 2) (by decide) (by have := HQ.out; omega))) (k * 5 + 4) (by omega) (cm (k := k) (j := 3) (by decide) (by have := HQ.out; omega))) ((k + 1) * 5) (by omega) (k7 (k := k) (by have := HQ.out; omega))), (((((hB.setCell _ _).setCell _ _).setCell _ _).setCell _ _).setCell _ _)⟩
   case measure => simp [intOf]; omega
  ·have hkn : k = n := by omega
   subst hkn
   have hli : ¬ (k : Int) < (k : Int) := by omega
   subst hQ
   go_wp2_with fail
   go_ret
   exact ⟨rfl, row, hB⟩
theorem gh (a : Option Addr) (c : Nat) (q0 : Int) (w : World) :
 Calls Tryz.prog 55 #[.slice a 0 c, .int .i64 q0] w fun e w' => e = .returned (.int .i64 q0) ∧ w = w' := by
 go_enter Tryz.func55, Tryz.ntmps55
 go_wp2_with fail
 go_loopw [1, 5] (fun q i wr => i = .int .i64 0 ∧ q = .int .i64 q0 ∧ w = wr) (fun _ i _ => 0)
 case atStart => exact ⟨rfl, rfl, by first | rfl | trivial⟩
 case round =>
  obtain ⟨rfl, rfl, rfl⟩ := hrel
  go_wp2_with fail
  go_ret
  exact ⟨rfl, rfl⟩
theorem fN (b off n c : Nat) (q0 : Int) (w : World) (hn : n ≤ 1048576) (hq : 0 < q0) (hq1 : q0 ≤ 1073741824) (h : Cs w b off (n * 5) (bA q0)) :
 Calls Tryz.prog 59 #[.slice (some ⟨b, off, none⟩) n c, .int .i64 q0] w fun e w' => e = .returned (.int .i64 (q0 + (n : Int) * 5)) ∧ w = w' := by
 have HP : Hid (Cs w b off (n * 5) (bA q0)) := h
 clear h
 go_enter Tryz.func59, Tryz.ntmps59
 go_wp2_with fail
 go_loopw [1, 5] (fun q i wr => ∃ (k : Nat) (Q : Int), k ≤ n ∧ i = .int .i64 k ∧ q = .int .i64 Q ∧ Q = q0 + (k : Int) * 5 ∧ w = wr) (fun _ i _ => n - (intOf i).toNat)
 case atStart => exact ⟨0, q0, Nat.zero_le _, rfl, rfl, by omega, by first | rfl | trivial⟩
 case round =>
  obtain ⟨k, Q, hk, rfl, rfl, hQ, rfl⟩ := hrel
  have HQ : Hid (Q = q0 + (k : Int) * 5) := hQ
  by_cases hlt : k < n
  ·have hli : (k : Int) < (n : Int) := by omega
   have Q0 : 0 < Q := by omega
   have Q1 : Q ≤ 1073741824 + 1048576 * 5 := by omega
   have hP := HP.out
   clear hQ
   have c0 : w.cell? ⟨b, off + k * 5, none⟩ = some (.int .i64 (Q)) := by have q := hP.2 (k * 5) (by omega); rw [show bA q0 (k * 5) = .int .i64 (Q) from cm (k := k) (j := 0) (x := Q) (by decide) (by have := HQ.out; omega)] at q; exact q
   have c1 : w.cell? ⟨b, off + k * 5 + 1, none⟩ = some (.int .i64 (Q + 1)) := by have q := hP.2 (k * 5 + 1) (by omega); rw [show bA q0 (k * 5 + 1) = .int .i64 (Q + 1) from cm (k := k) (j := 1) (x := Q + 1) (by decide) (by have := HQ.out; omega)] at q; exact q
   have c2 : w.cell? ⟨b, off + k * 5 + 2, none⟩ = some (.int .i64 (Q + 1 + 1)) := by have q := hP.2 (k * 5 + 2) (by omega); rw [show bA q0 (k * 5 + 2) = .int .i64 (Q + 1 + 1) from cm (k := k) (j := 2) (x := Q + 1 + 1) (by decide) (by have := HQ.out; omega)] at q; exact q
   have c3 : w.cell? ⟨b, off + k * 5 + 3, none⟩ = some (.int .i64 (Q + 1 + 1 + 1)) := by have q := hP.2 (k * 5 + 3) (by omega); rw [show bA q0 (k * 5 + 3) = .int .i64 (Q + 1 + 1 + 1) from cm (k := k) (j := 3) (x := Q + 1 + 1 + 1) (by decide) (by have := HQ.out; omega)] at q; exact q
   have c4 : w.cell? ⟨b, off + k * 5 + 4, none⟩ = some (.bool ((Q + 1 + 1 + 1 + 1) % 3 == 0)) := by have q := hP.2 (k * 5 + 4) (by omega); rw [show bA q0 (k * 5 + 4) = .bool ((Q + 1 + 1 + 1 + 1) % 3 == 0) from k7 (k := k) (x := Q + 1 + 1 + 1 + 1) (by have := HQ.out; omega)] at q; exact q
   have hbl := hP.1
   clear hP
   go_wp2_with fail
   go_roundw
   case rel => exact ⟨k + 1, _, by omega, by go_num, rfl, by have := HQ.out; omega, by first | rfl | trivial⟩
   case measure => simp [intOf]; omega
  ·have hkn : k = n := by omega
   subst hkn
   have hli : ¬ (k : Int) < (k : Int) := by omega
   subst hQ
   go_wp2_with fail
   go_ret
   exact ⟨rfl, rfl⟩
theorem fO (a : Option Addr) (c : Nat) (q0 : Int) (w : World) :
 Calls Tryz.prog 59 #[.slice a 0 c, .int .i64 q0] w fun e w' => e = .returned (.int .i64 q0) ∧ w = w' := by
 go_enter Tryz.func59, Tryz.ntmps59
 go_wp2_with fail
 go_loopw [1, 5] (fun q i wr => i = .int .i64 0 ∧ q = .int .i64 q0 ∧ w = wr) (fun _ i _ => 0)
 case atStart => exact ⟨rfl, rfl, by first | rfl | trivial⟩
 case round =>
  obtain ⟨rfl, rfl, rfl⟩ := hrel
  go_wp2_with fail
  go_ret
  exact ⟨rfl, rfl⟩
theorem gL (a : Option Addr) (n c : Nat) (q0 : Int) (w : World) (hn : n ≤ 1048576) (hq : 0 < q0) (hq1 : q0 ≤ 1073741824) (h : az w a (n * 5) (bA q0)) :
 Calls Tryz.prog 59 #[.slice a n c, .int .i64 q0] w fun e w' => e = .returned (.int .i64 (q0 + (n : Int) * 5)) ∧ w = w' := by
 rcases h with h0 | ⟨b, off, rfl, hp⟩
 ·have hn0 : n = 0 := by omega
  subst hn0
  exact (fO a c q0 w).mono fun e w' ⟨h1, h2⟩ => ⟨by rw [h1]; simp, h2⟩
 ·exact fN b off n c q0 w hn hq hq1 hp
end Go.Proofs.YtikbjljkakabdaaGreat
