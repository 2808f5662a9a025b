/- Rows of peers: what the laws make of them, and whether two are the same. Peers that are right, ascending; the contract of impl.PeersOk. What the laws keep; rows of numbers, of intervals and of peers, told by lists. Boxes that the laws keep. A block of three cells of any values. What a frame may take and reach over in the program: outgoing.fault, most, span; GateSpan, BusyStill, GateBudget. GateSpan and BusyStill in the specification. Slots and rows of slots: what the laws make of them, and whether two are the same. PlanOk in the specification. RoundOf and SlotFrom in the specification. -/
import Derived.Test.YtcakhfobkbgfoaaDoorMB2
import Derived.Test.YtcakhfobkbgfoaaDoorMB1
import Derived.Deep.RegionHeld3
import Derived.WalkKit
import Derived.WalkSpells
import Derived.WalkLawsBesides
import Derived.Deep.RegionHeld
import Derived.Deep.DeepCutAuto
import Derived.Deep.OwnRows
import Derived.Stop.IfaceNil
import Derived.Deep.QuietTactic
import Derived.BigQuiet
namespace Go.Proofs.YtcakhfobkbgfoaaDoor
open Go.RowKit
set_option linter.unusedVariables false
def Bx5 (w : World) (k : Nat) (u0 u1 u2 u3 u4 : Value) : Prop := k < w.heap.size ∧ w.cell? ⟨k, 0, none⟩ = some u0 ∧ w.cell? ⟨k, 1, none⟩ = some u1 ∧ w.cell? ⟨k, 2, none⟩ = some u2 ∧ w.cell? ⟨k, 3, none⟩ = some u3 ∧ w.cell? ⟨k, 4, none⟩ = some u4 ∧ w.frozen? ⟨k, 0, none⟩ = false ∧ w.frozen? ⟨k, 1, none⟩ = false ∧ w.frozen? ⟨k, 2, none⟩ = false ∧ w.frozen? ⟨k, 3, none⟩ = false ∧ w.frozen? ⟨k, 4, none⟩ = false
theorem Bx5.belowB {k B : Nat} {w w' : World} {u0 u1 u2 u3 u4 : Value} (h : Bx5 w k u0 u1 u2 u3 u4) (hw : Below B w w') (hk : k < B) : Bx5 w' k u0 u1 u2 u3 u4 := by
  obtain ⟨h0, h1, h2, h3, h4, h5, f1, f2, f3, f4, f5⟩ := h
  exact ⟨Nat.lt_of_lt_of_le h0 hw.size, by rw [hw.cell (p := ⟨k, 0, none⟩) hk]; exact h1, by rw [hw.cell (p := ⟨k, 1, none⟩) hk]; exact h2, by rw [hw.cell (p := ⟨k, 2, none⟩) hk]; exact h3, by rw [hw.cell (p := ⟨k, 3, none⟩) hk]; exact h4, by rw [hw.cell (p := ⟨k, 4, none⟩) hk]; exact h5, by rw [hw.frozen (p := ⟨k, 0, none⟩) hk]; exact f1, by rw [hw.frozen (p := ⟨k, 1, none⟩) hk]; exact f2, by rw [hw.frozen (p := ⟨k, 2, none⟩) hk]; exact f3, by rw [hw.frozen (p := ⟨k, 3, none⟩) hk]; exact f4, by rw [hw.frozen (p := ⟨k, 4, none⟩) hk]; exact f5⟩
theorem Bx5.below {k : Nat} {w w' : World} {u0 u1 u2 u3 u4 : Value} (h : Bx5 w k u0 u1 u2 u3 u4) (hw : Below w.heap.size w w') : Bx5 w' k u0 u1 u2 u3 u4 := h.belowB hw h.1
theorem Bx5.but {w w' : World} {k q : Nat} {u0 u1 u2 u3 u4 : Value} (h : Bx5 w k u0 u1 u2 u3 u4) (hb : But q w w') (hq : k ≠ q) : Bx5 w' k u0 u1 u2 u3 u4 := by
  obtain ⟨h0, h1, h2, h3, h4, h5, f1, f2, f3, f4, f5⟩ := h
  exact ⟨Nat.lt_of_lt_of_le h0 hb.2.2.2.1, by rw [hb.cell h0 hq]; exact h1, by rw [hb.cell h0 hq]; exact h2, by rw [hb.cell h0 hq]; exact h3, by rw [hb.cell h0 hq]; exact h4, by rw [hb.cell h0 hq]; exact h5, by rw [hb.frozen h0 hq]; exact f1, by rw [hb.frozen h0 hq]; exact f2, by rw [hb.frozen h0 hq]; exact f3, by rw [hb.frozen h0 hq]; exact f4, by rw [hb.frozen h0 hq]; exact f5⟩
theorem Bx5.alloc {k : Nat} {w : World} {u0 u1 u2 u3 u4 : Value} (h : Bx5 w k u0 u1 u2 u3 u4) (o : Obj) : Bx5 (w.alloc o) k u0 u1 u2 u3 u4 := h.below ((Below.refl _ _).alloc (Nat.le_refl _) _)
theorem Bx5.new (w : World) (u0 u1 u2 u3 u4 : Value) (T : TypeId) : Bx5 (w.alloc (.cells #[u0, u1, u2, u3, u4] T)) w.heap.size u0 u1 u2 u3 u4 := ⟨by simp, by simp, by simp, by simp, by simp, by simp, by simp, by simp, by simp, by simp, by simp⟩
theorem Bx5.drew {k : Nat} {w : World} {u0 u1 u2 u3 u4 : Value} (h : Bx5 w k u0 u1 u2 u3 u4) : Bx5 w.drew k u0 u1 u2 u3 u4 := h
theorem Bx5.setO {k j : Nat} {w : World} {u0 u1 u2 u3 u4 : Value} (h : Bx5 w k u0 u1 u2 u3 u4) (hk : j ≠ k) (o : Nat) (u : Value) : Bx5 (w.setCell ⟨j, o, none⟩ u) k u0 u1 u2 u3 u4 := by
  have hne : ∀ q, (⟨j, o, none⟩ : Addr) ≠ ⟨k, q, none⟩ := fun q e => hk (congrArg Addr.block e)
  obtain ⟨h0, h1, h2, h3, h4, h5, f1, f2, f3, f4, f5⟩ := h
  exact ⟨by simpa using h0, by rw [World.cell?_setCell_other _ _ _ _ (hne _)]; exact h1, by rw [World.cell?_setCell_other _ _ _ _ (hne _)]; exact h2, by rw [World.cell?_setCell_other _ _ _ _ (hne _)]; exact h3, by rw [World.cell?_setCell_other _ _ _ _ (hne _)]; exact h4, by rw [World.cell?_setCell_other _ _ _ _ (hne _)]; exact h5, by simpa using f1, by simpa using f2, by simpa using f3, by simpa using f4, by simpa using f5⟩
theorem Bx5.set0 {k : Nat} {w : World} {u0 u1 u2 u3 u4 : Value} (h : Bx5 w k u0 u1 u2 u3 u4) (x : Value) : Bx5 (w.setCell ⟨k, 0, none⟩ x) k x u1 u2 u3 u4 := by
  obtain ⟨h0, h1, h2, h3, h4, h5, f1, f2, f3, f4, f5⟩ := h
  exact ⟨by simpa using h0, World.cell?_setCell_same _ _ _ h1, (World.cell?_setCell_other _ _ _ _ (by simp)).trans h2, (World.cell?_setCell_other _ _ _ _ (by simp)).trans h3, (World.cell?_setCell_other _ _ _ _ (by simp)).trans h4, (World.cell?_setCell_other _ _ _ _ (by simp)).trans h5, by simpa using f1, by simpa using f2, by simpa using f3, by simpa using f4, by simpa using f5⟩
theorem Bx5.set1 {k : Nat} {w : World} {u0 u1 u2 u3 u4 : Value} (h : Bx5 w k u0 u1 u2 u3 u4) (x : Value) : Bx5 (w.setCell ⟨k, 1, none⟩ x) k u0 x u2 u3 u4 := by
  obtain ⟨h0, h1, h2, h3, h4, h5, f1, f2, f3, f4, f5⟩ := h
  exact ⟨by simpa using h0, (World.cell?_setCell_other _ _ _ _ (by simp)).trans h1, World.cell?_setCell_same _ _ _ h2, (World.cell?_setCell_other _ _ _ _ (by simp)).trans h3, (World.cell?_setCell_other _ _ _ _ (by simp)).trans h4, (World.cell?_setCell_other _ _ _ _ (by simp)).trans h5, by simpa using f1, by simpa using f2, by simpa using f3, by simpa using f4, by simpa using f5⟩
theorem Bx5.set2 {k : Nat} {w : World} {u0 u1 u2 u3 u4 : Value} (h : Bx5 w k u0 u1 u2 u3 u4) (x : Value) : Bx5 (w.setCell ⟨k, 2, none⟩ x) k u0 u1 x u3 u4 := by
  obtain ⟨h0, h1, h2, h3, h4, h5, f1, f2, f3, f4, f5⟩ := h
  exact ⟨by simpa using h0, (World.cell?_setCell_other _ _ _ _ (by simp)).trans h1, (World.cell?_setCell_other _ _ _ _ (by simp)).trans h2, World.cell?_setCell_same _ _ _ h3, (World.cell?_setCell_other _ _ _ _ (by simp)).trans h4, (World.cell?_setCell_other _ _ _ _ (by simp)).trans h5, by simpa using f1, by simpa using f2, by simpa using f3, by simpa using f4, by simpa using f5⟩
theorem Bx5.set3 {k : Nat} {w : World} {u0 u1 u2 u3 u4 : Value} (h : Bx5 w k u0 u1 u2 u3 u4) (x : Value) : Bx5 (w.setCell ⟨k, 3, none⟩ x) k u0 u1 u2 x u4 := by
  obtain ⟨h0, h1, h2, h3, h4, h5, f1, f2, f3, f4, f5⟩ := h
  exact ⟨by simpa using h0, (World.cell?_setCell_other _ _ _ _ (by simp)).trans h1, (World.cell?_setCell_other _ _ _ _ (by simp)).trans h2, (World.cell?_setCell_other _ _ _ _ (by simp)).trans h3, World.cell?_setCell_same _ _ _ h4, (World.cell?_setCell_other _ _ _ _ (by simp)).trans h5, by simpa using f1, by simpa using f2, by simpa using f3, by simpa using f4, by simpa using f5⟩
theorem Bx5.set4 {k : Nat} {w : World} {u0 u1 u2 u3 u4 : Value} (h : Bx5 w k u0 u1 u2 u3 u4) (x : Value) : Bx5 (w.setCell ⟨k, 4, none⟩ x) k u0 u1 u2 u3 x := by
  obtain ⟨h0, h1, h2, h3, h4, h5, f1, f2, f3, f4, f5⟩ := h
  exact ⟨by simpa using h0, (World.cell?_setCell_other _ _ _ _ (by simp)).trans h1, (World.cell?_setCell_other _ _ _ _ (by simp)).trans h2, (World.cell?_setCell_other _ _ _ _ (by simp)).trans h3, (World.cell?_setCell_other _ _ _ _ (by simp)).trans h4, World.cell?_setCell_same _ _ _ h5, by simpa using f1, by simpa using f2, by simpa using f3, by simpa using f4, by simpa using f5⟩
abbrev PT : Type := Int × Int × Int × Int × Bool
def zP : PT := (0, 0, 0, 0, false)
def MCPeer (M : PT) : Nat → Value
  | 0 => .int .i64 M.1
  | 1 => .int .i64 M.2.1
  | 2 => .int .i64 M.2.2.1
  | 3 => .int .i64 M.2.2.2.1
  | _ => .bool M.2.2.2.2
def MFPeer (M : Nat → PT) (c : Nat) : Value := MCPeer (M (c / 5)) (c % 5)
theorem MFPeer_at (M : Nat → PT) (k j : Nat) (hj : j < 5) : MFPeer M (k * 5 + j) = MCPeer (M k) j := by
  have h1 : (k * 5 + j) / 5 = k := by omega
  have h2 : (k * 5 + j) % 5 = j := by omega
  rw [MFPeer, h1, h2]
theorem MFPeer_vals {M : Nat → PT} {k : Nat} {x0 : Int} {x1 : Int} {x2 : Int} {x3 : Int} {x4 : Bool} (hM : M k = (x0, x1, x2, x3, x4)) : MFPeer M (k * 5) = .int .i64 x0 ∧ MFPeer M (k * 5 + 1) = .int .i64 x1 ∧ MFPeer M (k * 5 + 2) = .int .i64 x2 ∧ MFPeer M (k * 5 + 3) = .int .i64 x3 ∧ MFPeer M (k * 5 + 4) = .bool x4 :=
  ⟨by have q := MFPeer_at M k 0 (by decide); rw [hM] at q; exact q, by have q := MFPeer_at M k 1 (by decide); rw [hM] at q; exact q, by have q := MFPeer_at M k 2 (by decide); rw [hM] at q; exact q, by have q := MFPeer_at M k 3 (by decide); rw [hM] at q; exact q, by have q := MFPeer_at M k 4 (by decide); rw [hM] at q; exact q⟩
theorem Cs.elPeer {w : World} {b off n k : Nat} {M : Nat → PT} {x0 : Int} {x1 : Int} {x2 : Int} {x3 : Int} {x4 : Bool} (h : Cs w b off (n * 5) (MFPeer M)) (hk : k < n) (hM : M k = (x0, x1, x2, x3, x4)) : w.cell? ⟨b, off + k * 5, none⟩ = some (.int .i64 x0) ∧ w.cell? ⟨b, off + k * 5 + 1, none⟩ = some (.int .i64 x1) ∧ w.cell? ⟨b, off + k * 5 + 2, none⟩ = some (.int .i64 x2) ∧ w.cell? ⟨b, off + k * 5 + 3, none⟩ = some (.int .i64 x3) ∧ w.cell? ⟨b, off + k * 5 + 4, none⟩ = some (.bool x4) := by
  obtain ⟨q0, q1, q2, q3, q4⟩ := MFPeer_vals hM
  exact ⟨by have := h.2 (k * 5) (by omega); rw [q0] at this; exact this, by have := h.2 (k * 5 + 1) (by omega); rw [q1] at this; exact this, by have := h.2 (k * 5 + 2) (by omega); rw [q2] at this; exact this, by have := h.2 (k * 5 + 3) (by omega); rw [q3] at this; exact this, by have := h.2 (k * 5 + 4) (by omega); rw [q4] at this; exact this⟩
theorem tupPeer (M : Nat → PT) (k : Nat) : ∃ (x0 : Int) (x1 : Int) (x2 : Int) (x3 : Int) (x4 : Bool), M k = (x0, x1, x2, x3, x4) := ⟨_, _, _, _, _, rfl⟩
def mkPeer (q : Int) (c : Nat) : Value := if c % 5 = 4 then .bool ((q + (c : Int)) % 3 == 0) else .int .i64 (q + (c : Int))
theorem mkPeer_i {q : Int} {k j : Nat} {x : Int} (hj : j < 4) (h : x = q + ((k * 5 + j : Nat) : Int)) : mkPeer q (k * 5 + j) = .int .i64 x := by rw [mkPeer, if_neg (by omega), h]
theorem mkPeer_b {q : Int} {k : Nat} {x : Int} (h : x = q + ((k * 5 + 4 : Nat) : Int)) : mkPeer q (k * 5 + 4) = .bool (x % 3 == 0) := by rw [mkPeer, if_pos (by omega), h]
end Go.Proofs.YtcakhfobkbgfoaaDoor
namespace Go.Proofs.YtcakhfobkbgfoaaDoor
open Go.RowKit
set_option linter.unusedVariables false
def pOk (M : PT) : Bool := nodB M.1 && okI M.2.1 M.2.2.1 && okT M.2.2.2.1
def prv (M : Nat → PT) : Nat → Int
  | 0 => -1
  | k + 1 => (M k).1
def elP (M : Nat → PT) (k : Nat) : Bool := pOk (M k) && decide (prv M k < (M k).1)
/- The first n of M are peers, ascending. -/
def oks (M : Nat → PT) : Nat → Bool
  | 0 => true
  | k + 1 => oks M k && elP M k
theorem oks_step {M : Nat → PT} {k : Nat} (h : oks M k = true) (h2 : elP M k = true) : oks M (k + 1) = true := by rw [oks, h, h2]; rfl
theorem oks_no {M : Nat → PT} {k : Nat} (h : elP M k = false) : ∀ n, k < n → oks M n = false
  | 0, hk => absurd hk (Nat.not_lt_zero _)
  | n + 1, hk => by
    rw [oks]
    by_cases e : k = n
    · subst e; rw [h]; simp
    · rw [oks_no h n (by omega)]; rfl
theorem oks_el {M : Nat → PT} : ∀ {n : Nat}, oks M n = true → ∀ k, k < n → elP M k = true
  | 0, _, k, hk => absurd hk (Nat.not_lt_zero _)
  | n + 1, h, k, hk => by
    rw [oks, Bool.and_eq_true] at h
    by_cases e : k = n
    · subst e; exact h.2
    · exact oks_el h.1 k (by omega)
theorem nodB_t {x : Int} (h : nodB x = true) : 0 ≤ x ∧ x ≤ 7 := of_decide_eq_true h
theorem elP_t {M : Nat → PT} {k : Nat} (h : elP M k = true) : pOk (M k) = true ∧ prv M k < (M k).1 := by simpa [elP] using h
theorem pOk_t {m : PT} (h : pOk m = true) : nodB m.1 = true ∧ okI m.2.1 m.2.2.1 = true ∧ okT m.2.2.2.1 = true := by
  unfold pOk at h
  simp only [Bool.and_eq_true] at h
  exact ⟨h.1.1, h.1.2, h.2⟩
theorem oks_ge {M : Nat → PT} {n : Nat} (h : oks M n = true) : ∀ k, k < n → (k : Int) ≤ (M k).1
  | 0, hk => by
    have := nodB_t (pOk_t (elP_t (oks_el h 0 hk)).1).1
    omega
  | k + 1, hk => by
    have h1 := oks_ge h k (by omega)
    have h2 : (M k).1 < (M (k + 1)).1 := (elP_t (oks_el h (k + 1) hk)).2
    omega
theorem oks_le {M : Nat → PT} {n : Nat} (h : oks M n = true) : n ≤ 8 := by
  by_cases hn : n ≤ 8
  · exact hn
  · have h1 := oks_ge h (n - 1) (by omega)
    have h2 := nodB_t (pOk_t (elP_t (oks_el h (n - 1) (by omega))).1).1
    omega
theorem oks_long {M : Nat → PT} {n : Nat} (h : ¬ n ≤ 8) : oks M n = false := by
  cases e : oks M n
  · rfl
  · exact absurd (oks_le e) h
theorem oks_asc {M : Nat → PT} {n : Nat} (h : oks M n = true) {i : Nat} : ∀ {j : Nat}, i < j → j < n → (M i).1 < (M j).1
  | 0, hij, _ => absurd hij (Nat.not_lt_zero _)
  | j + 1, hij, hj => by
    have h2 : (M j).1 < (M (j + 1)).1 := (elP_t (oks_el h (j + 1) hj)).2
    by_cases e : i = j
    · subst e; exact h2
    · exact Int.lt_trans (oks_asc h (by omega) (by omega)) h2
theorem oks_p {M : Nat → PT} {n : Nat} (h : oks M n = true) {k : Nat} (hk : k < n) : nodB (M k).1 = true ∧ okI (M k).2.1 (M k).2.2.1 = true ∧ okT (M k).2.2.2.1 = true := pOk_t (elP_t (oks_el h k hk)).1
end Go.Proofs.YtcakhfobkbgfoaaDoor
namespace Go.Proofs.YtcakhfobkbgfoaaDoor
open Go.RowKit
set_option linter.unusedVariables false
theorem But.grK {w w' : World} {q : Nat} (h : But q w w') : w.grownBy w' (some q) := ⟨h.1, h.2.1, h.2.2.1, h.2.2.2.1, fun k hk hp => h.2.2.2.2 k hk (fun e => hp (by rw [e]))⟩
theorem But.ofGrownK {w w' : World} {q : Nat} (h : w.grownBy w' (some q)) : But q w w' := ⟨h.os, h.tape, h.output, h.size, fun k hk hq => h.block k hk (fun e => hq (by simpa using e))⟩
def SrcK (w : World) (a : Option Addr) (m : Nat) (F : Nat → Value) (L : Nat) : Prop := m = 0 ∨ ∃ b off, a = some ⟨b, off, none⟩ ∧ b < L ∧ Cs w b off m F
theorem SrcK.of {w : World} {a : Option Addr} {m : Nat} {F : Nat → Value} (h : SrcC w a m F) : SrcK w a m F w.heap.size := by
  rcases h with h | ⟨b, off, h1, h2⟩
  · exact .inl h
  · exact .inr ⟨b, off, h1, h2.1, h2⟩
theorem SrcK.src {w : World} {a : Option Addr} {m L : Nat} {F : Nat → Value} (h : SrcK w a m F L) : SrcC w a m F := by
  rcases h with h | ⟨b, off, h1, _, h2⟩
  · exact .inl h
  · exact .inr ⟨b, off, h1, h2⟩
theorem SrcK.below {w w' : World} {a : Option Addr} {m L : Nat} {F : Nat → Value} (h : SrcK w a m F L) (hb : Below w.heap.size w w') : SrcK w' a m F L := by
  rcases h with h | ⟨b, off, h1, h3, h2⟩
  · exact .inl h
  · exact .inr ⟨b, off, h1, h3, h2.below hb h2.1⟩
theorem Cs.kept {w w' : World} {o : Option Nat} {b off N : Nat} {F : Nat → Value} (h : Cs w b off N F) (hg : w.grownBy w' o) (hne : some b ≠ o) : Cs w' b off N F :=
  ⟨Nat.lt_of_lt_of_le h.1 hg.size, fun j hj => by
    have := hg.block b h.1 hne
    have q := h.2 j hj
    simp only [World.cell?] at q ⊢
    rw [this]; exact q⟩
theorem SrcK.kept {w w' : World} {o : Option Nat} {a : Option Addr} {m L : Nat} {F : Nat → Value} (h : SrcK w a m F L) (hg : w.grownBy w' o) (hne : ∀ b, b < L → some b ≠ o) : SrcK w' a m F L := by
  rcases h with h | ⟨b, off, h1, h3, h2⟩
  · exact .inl h
  · exact .inr ⟨b, off, h1, h3, h2.kept hg (hne b h3)⟩
theorem SrcC.keptK {w w' : World} {o : Option Nat} {a : Option Addr} {m : Nat} {F : Nat → Value} (h : SrcC w a m F) (hg : w.grownBy w' o) (hne : ∀ b off, a = some ⟨b, off, none⟩ → some b ≠ o) : SrcC w' a m F := by
  rcases h with h | ⟨b, off, h1, h2⟩
  · exact .inl h
  · exact .inr ⟨b, off, h1, h2.kept hg (hne b off h1)⟩
theorem cell_grown {w w' : World} {o : Option Nat} {b i : Nat} (hg : w.grownBy w' o) (hb : b < w.heap.size) (hne : some b ≠ o) : w'.cell? ⟨b, i, none⟩ = w.cell? ⟨b, i, none⟩ := by
  have := hg.block b hb hne
  simp only [World.cell?]
  rw [this]
theorem grown_bel {w w' : World} {o : Option Nat} {B : Nat} (hg : w.grownBy w' o) (hB : B ≤ w.heap.size) (hne : ∀ b, b < B → some b ≠ o) : Below B w w' := ⟨hg.os, hg.tape, hg.output, hg.size, fun k hk => hg.block k (by omega) (hne k hk)⟩
theorem bel_grown {w w' : World} (h : Below w.heap.size w w') : w.grownBy w' none := ⟨h.os, h.tape, h.output, h.size, fun k hk _ => h.block k hk⟩
theorem own_at {w : World} {base : Nat} {e : TypeId} {s n c : Nat} {a : Option Addr} {xs : List Value} (h : w.ownsRow base e s (.slice a n c) n xs) {b off : Nat} (ha : a = some ⟨b, off, none⟩) : (Value.slice a n c).ownBlock = some b := by
  rcases h.2 with ⟨he, _⟩ | ⟨g, cap, cur, he, _⟩
  · simp at he; rw [he.1] at ha; cases ha
  · simp at he; rw [he.1] at ha; simp at ha; rw [he.1, ← ha.1]; rfl
theorem own_neK {w w' : World} {base p : Nat} {e : TypeId} {size : Nat} {v : Value} {n : Nat} {xs : List Value} (h : w.ownsRow base e size v n xs) (hb : But p w w') (hp : ∀ g, v.ownBlock = some g → g ≠ p) : w'.ownsRow base e size v n xs := by
  refine World.ownsRow.kept h hb.grK ?_
  cases hv : v.ownBlock with
  | none => exact .inl rfl
  | some k =>
    right
    intro e
    injection e with e
    exact hp k hv e
theorem own_butK {w w' : World} {base p : Nat} {e : TypeId} {size : Nat} {v : Value} {n : Nat} {xs : List Value} (h : w.ownsRow base e size v n xs) (hb : But p w w') (hp : p < base) : w'.ownsRow base e size v n xs :=
  own_neK h hb fun g hg e => by have := (World.ownsRow.lt h g hg).1; omega
theorem own_belK {w w' : World} {B base : Nat} {e : TypeId} {size : Nat} {v : Value} {n : Nat} {xs : List Value} (h : w.ownsRow base e size v n xs) (hb : Below B w w') (hlt : ∀ g, v.ownBlock = some g → g < B) : w'.ownsRow base e size v n xs := by
  refine ⟨h.1, ?_⟩
  rcases h.2 with h | ⟨g, cap, cur, rfl, h2, h3, h4⟩
  · exact .inl h
  · exact .inr ⟨g, cap, cur, rfl, h2, (hb.block g (hlt g rfl)).trans h3, h4⟩
theorem own_belK' {w w' : World} {base : Nat} {e : TypeId} {size : Nat} {v : Value} {n : Nat} {xs : List Value} (h : w.ownsRow base e size v n xs) (hb : Below w.heap.size w w') : w'.ownsRow base e size v n xs := own_belK h hb fun g hg => (World.ownsRow.lt h g hg).2
theorem grown_belowK {w w' : World} {base : Nat} {e : TypeId} {size : Nat} {v : Value} {n : Nat} {xs : List Value} (h : w.ownsRow base e size v n xs) (hg : w.grownBy w' v.ownBlock) (hs : base ≤ w.heap.size) : Below base w w' :=
  ⟨hg.os, hg.tape, hg.output, hg.size, fun k hk => hg.block k (by omega) (fun he => by have := (World.ownsRow.lt h k he.symm).1; omega)⟩
theorem ne_own {p q : Option Nat} (h : ∀ g, p = some g → q ≠ some g) : q = none ∨ q ≠ p := by
  cases q with
  | none => exact .inl rfl
  | some k => exact .inr fun e => h k e.symm rfl
theorem ne_own' {p q : Option Nat} (h : ∀ g, p = some g → q ≠ some g) (hp : p ≠ none) : p ≠ q := by
  cases p with
  | none => exact absurd rfl hp
  | some k => exact fun e => h k rfl e.symm
def MFInt (f : Nat → Int) (c : Nat) : Value := .int .i64 (f c)
def mkInt (q : Int) (c : Nat) : Value := .int .i64 (q + (c : Int))
abbrev VT : Type := Int × Int
def zV : VT := (0, 0)
def MCIval (M : VT) : Nat → Value
  | 0 => .int .i64 M.1
  | _ => .int .i64 M.2
def MFIval (M : Nat → VT) (c : Nat) : Value := MCIval (M (c / 2)) (c % 2)
theorem MFIval_at (M : Nat → VT) (k j : Nat) (hj : j < 2) : MFIval M (k * 2 + j) = MCIval (M k) j := by
  have h1 : (k * 2 + j) / 2 = k := by omega
  have h2 : (k * 2 + j) % 2 = j := by omega
  rw [MFIval, h1, h2]
theorem MFIval_vals {M : Nat → VT} {k : Nat} {x0 : Int} {x1 : Int} (hM : M k = (x0, x1)) : MFIval M (k * 2) = .int .i64 x0 ∧ MFIval M (k * 2 + 1) = .int .i64 x1 :=
  ⟨by have q := MFIval_at M k 0 (by decide); rw [hM] at q; exact q, by have q := MFIval_at M k 1 (by decide); rw [hM] at q; exact q⟩
theorem Cs.elIval {w : World} {b off n k : Nat} {M : Nat → VT} {x0 : Int} {x1 : Int} (h : Cs w b off (n * 2) (MFIval M)) (hk : k < n) (hM : M k = (x0, x1)) : w.cell? ⟨b, off + k * 2, none⟩ = some (.int .i64 x0) ∧ w.cell? ⟨b, off + k * 2 + 1, none⟩ = some (.int .i64 x1) := by
  obtain ⟨q0, q1⟩ := MFIval_vals hM
  exact ⟨by have := h.2 (k * 2) (by omega); rw [q0] at this; exact this, by have := h.2 (k * 2 + 1) (by omega); rw [q1] at this; exact this⟩
theorem tupIval (M : Nat → VT) (k : Nat) : ∃ (x0 : Int) (x1 : Int), M k = (x0, x1) := ⟨_, _, rfl⟩
def rowObjIval (n : Nat) : Obj := .cells (madeCells #[.int .i64 0, .int .i64 0] (n * 2)) 25
theorem infoIval : (Tryd.prog.info? 25).map (fun i => (i.zero, i.size, i.bytes)) = some (some (.agg #[.int .i64 0, .int .i64 0]), 2, 16) := by kernel_rfl
theorem mk_rowIval (n : Nat) (h : n ≤ 1048576) (w : World) : (Instr.makeSlice 102 (.int .i64 (n : Int)) (.int .i64 (n : Int))).run Tryd.prog w = .ok (.slice (some ⟨w.heap.size, 0, none⟩) n n) (w.alloc (rowObjIval n)) := by
  obtain ⟨i, hi, hz⟩ := Option.map_eq_some_iff.1 infoIval
  simp only [Prod.mk.injEq] at hz
  obtain ⟨h1, h2, h3⟩ := hz
  have hr := run_make (P := Tryd.prog) w 102 25 i _ Tryd.underlying102 hi h1 .i64 .i64 n n (by omega) (Int.le_refl _) (by rw [h3]; omega) (by omega)
  simp only [Int.toNat_natCast, h2] at hr
  exact hr
theorem rowObjIval_is (w : World) (n : Nat) (F : Nat → Value) : RowF (w.alloc (rowObjIval n)) w.heap.size 25 (n * 2) 0 F := by
  have h := World.rowIs_alloc w (madeCells #[.int .i64 0, .int .i64 0] (n * 2)) 25 (fun i => (madeCells #[.int .i64 0, .int .i64 0] (n * 2)).getD i undef) (fun i hi => by
    rw [Array.getElem?_eq_getElem hi]; exact congrArg some (by rw [Array.getD_eq_getD_getElem?, Array.getElem?_eq_getElem hi]; rfl))
  rw [size_madeCells] at h
  exact ⟨_, h, fun j hj => absurd hj (Nat.not_lt_zero _)⟩
def mkIval (q : Int) (c : Nat) : Value := .int .i64 (q + (c : Int))
theorem mkIval_i {q : Int} {k j : Nat} {x : Int} (h : x = q + ((k * 2 + j : Nat) : Int)) : mkIval q (k * 2 + j) = .int .i64 x := by rw [mkIval, h]
def gI (L : List Int) (i : Nat) : Int := L.getD i 0
def irow (L : List Int) : List Value := (List.range (L.length * 1)).map (MFInt (gI L))
theorem gI_old {L : List Int} {p : Int} {i : Nat} (h : i < L.length) : gI (L ++ [p]) i = gI L i := by rw [gI, gI, List.getD_eq_getElem?_getD, List.getD_eq_getElem?_getD, List.getElem?_append_left h]
theorem gI_new (L : List Int) (p : Int) : gI (L ++ [p]) L.length = p := by rw [gI, List.getD_eq_getElem?_getD, List.getElem?_append_right (Nat.le_refl _), Nat.sub_self]; rfl
theorem irow_snoc (L : List Int) (p : Int) : irow (L ++ [p]) = irow L ++ [.int .i64 p] := by
  rw [irow, List.length_append, show [p].length = 1 from rfl, mapF_add, irow]
  congr 1
  · refine List.map_congr_left fun c hc => ?_
    have hc' : c < L.length * 1 := List.mem_range.1 hc
    show Value.int .i64 (gI (L ++ [p]) c) = .int .i64 (gI L c)
    rw [gI_old (by omega)]
  · show [Value.int .i64 (gI (L ++ [p]) (L.length * 1 + 0))] = [.int .i64 p]
    rw [Nat.mul_one, Nat.add_zero, gI_new]
def gV (L : List VT) (i : Nat) : VT := L.getD i zV
def vrow (L : List VT) : List Value := (List.range (L.length * 2)).map (MFIval (gV L))
theorem gV_old {L : List VT} {p : VT} {i : Nat} (h : i < L.length) : gV (L ++ [p]) i = gV L i := by rw [gV, gV, List.getD_eq_getElem?_getD, List.getD_eq_getElem?_getD, List.getElem?_append_left h]
theorem gV_new (L : List VT) (p : VT) : gV (L ++ [p]) L.length = p := by rw [gV, List.getD_eq_getElem?_getD, List.getElem?_append_right (Nat.le_refl _), Nat.sub_self]; rfl
theorem vrow_snoc (L : List VT) (p : VT) : vrow (L ++ [p]) = vrow L ++ [.int .i64 p.1, .int .i64 p.2] := by
  rw [vrow, List.length_append, show [p].length = 1 from rfl, mapF_add, vrow]
  congr 1
  · refine List.map_congr_left fun c hc => ?_
    have hc' : c < L.length * 2 := List.mem_range.1 hc
    show MCIval (gV (L ++ [p]) (c / 2)) _ = MCIval (gV L (c / 2)) _
    rw [gV_old (by omega)]
  · show [MFIval (gV (L ++ [p])) (L.length * 2 + 0), MFIval (gV (L ++ [p])) (L.length * 2 + 1)] = _
    rw [MFIval_at _ _ 0 (by decide), MFIval_at _ _ 1 (by decide), gV_new]
    rfl
def gP (L : List PT) (i : Nat) : PT := L.getD i zP
def prow (L : List PT) : List Value := (List.range (L.length * 5)).map (MFPeer (gP L))
theorem gP_old {L : List PT} {p : PT} {i : Nat} (h : i < L.length) : gP (L ++ [p]) i = gP L i := by rw [gP, gP, List.getD_eq_getElem?_getD, List.getD_eq_getElem?_getD, List.getElem?_append_left h]
theorem gP_new (L : List PT) (p : PT) : gP (L ++ [p]) L.length = p := by rw [gP, List.getD_eq_getElem?_getD, List.getElem?_append_right (Nat.le_refl _), Nat.sub_self]; rfl
theorem prow_snoc (L : List PT) (p : PT) : prow (L ++ [p]) = prow L ++ [.int .i64 p.1, .int .i64 p.2.1, .int .i64 p.2.2.1, .int .i64 p.2.2.2.1, .bool p.2.2.2.2] := by
  rw [prow, List.length_append, show [p].length = 1 from rfl, mapF_add, prow]
  congr 1
  · refine List.map_congr_left fun c hc => ?_
    have hc' : c < L.length * 5 := List.mem_range.1 hc
    show MCPeer (gP (L ++ [p]) (c / 5)) _ = MCPeer (gP L (c / 5)) _
    rw [gP_old (by omega)]
  · show [MFPeer (gP (L ++ [p])) (L.length * 5 + 0), MFPeer (gP (L ++ [p])) (L.length * 5 + 1), MFPeer (gP (L ++ [p])) (L.length * 5 + 2), MFPeer (gP (L ++ [p])) (L.length * 5 + 3), MFPeer (gP (L ++ [p])) (L.length * 5 + 4)] = _
    rw [MFPeer_at _ _ 0 (by decide), MFPeer_at _ _ 1 (by decide), MFPeer_at _ _ 2 (by decide), MFPeer_at _ _ 3 (by decide), MFPeer_at _ _ 4 (by decide), gP_new]
    rfl
end Go.Proofs.YtcakhfobkbgfoaaDoor
namespace Go.Proofs.YtcakhfobkbgfoaaDoor
open Go.RowKit
set_option linter.unusedVariables false
def Bx2 (w : World) (k : Nat) (u0 u1 : Value) : Prop := k < w.heap.size ∧ w.cell? ⟨k, 0, none⟩ = some u0 ∧ w.cell? ⟨k, 1, none⟩ = some u1 ∧ w.frozen? ⟨k, 0, none⟩ = false ∧ w.frozen? ⟨k, 1, none⟩ = false
theorem Bx2.belowB {k B : Nat} {w w' : World} {u0 u1 : Value} (h : Bx2 w k u0 u1) (hw : Below B w w') (hk : k < B) : Bx2 w' k u0 u1 := by
  obtain ⟨h0, h1, h2, f1, f2⟩ := h
  exact ⟨Nat.lt_of_lt_of_le h0 hw.size, by rw [hw.cell (p := ⟨k, 0, none⟩) hk]; exact h1, by rw [hw.cell (p := ⟨k, 1, none⟩) hk]; exact h2, by rw [hw.frozen (p := ⟨k, 0, none⟩) hk]; exact f1, by rw [hw.frozen (p := ⟨k, 1, none⟩) hk]; exact f2⟩
theorem Bx2.below {k : Nat} {w w' : World} {u0 u1 : Value} (h : Bx2 w k u0 u1) (hw : Below w.heap.size w w') : Bx2 w' k u0 u1 := h.belowB hw h.1
theorem Bx2.but {w w' : World} {k q : Nat} {u0 u1 : Value} (h : Bx2 w k u0 u1) (hb : But q w w') (hq : k ≠ q) : Bx2 w' k u0 u1 := by
  obtain ⟨h0, h1, h2, f1, f2⟩ := h
  exact ⟨Nat.lt_of_lt_of_le h0 hb.2.2.2.1, by rw [hb.cell h0 hq]; exact h1, by rw [hb.cell h0 hq]; exact h2, by rw [hb.frozen h0 hq]; exact f1, by rw [hb.frozen h0 hq]; exact f2⟩
theorem Bx2.alloc {k : Nat} {w : World} {u0 u1 : Value} (h : Bx2 w k u0 u1) (o : Obj) : Bx2 (w.alloc o) k u0 u1 := h.below ((Below.refl _ _).alloc (Nat.le_refl _) _)
theorem Bx2.new (w : World) (u0 u1 : Value) (T : TypeId) : Bx2 (w.alloc (.cells #[u0, u1] T)) w.heap.size u0 u1 := ⟨by simp, by simp, by simp, by simp, by simp⟩
theorem Bx2.drew {k : Nat} {w : World} {u0 u1 : Value} (h : Bx2 w k u0 u1) : Bx2 w.drew k u0 u1 := h
theorem Bx2.setO {k j : Nat} {w : World} {u0 u1 : Value} (h : Bx2 w k u0 u1) (hk : j ≠ k) (o : Nat) (u : Value) : Bx2 (w.setCell ⟨j, o, none⟩ u) k u0 u1 := by
  have hne : ∀ q, (⟨j, o, none⟩ : Addr) ≠ ⟨k, q, none⟩ := fun q e => hk (congrArg Addr.block e)
  obtain ⟨h0, h1, h2, f1, f2⟩ := h
  exact ⟨by simpa using h0, by rw [World.cell?_setCell_other _ _ _ _ (hne _)]; exact h1, by rw [World.cell?_setCell_other _ _ _ _ (hne _)]; exact h2, by simpa using f1, by simpa using f2⟩
theorem Bx2.set0 {k : Nat} {w : World} {u0 u1 : Value} (h : Bx2 w k u0 u1) (x : Value) : Bx2 (w.setCell ⟨k, 0, none⟩ x) k x u1 := by
  obtain ⟨h0, h1, h2, f1, f2⟩ := h
  exact ⟨by simpa using h0, World.cell?_setCell_same _ _ _ h1, (World.cell?_setCell_other _ _ _ _ (by simp)).trans h2, by simpa using f1, by simpa using f2⟩
theorem Bx2.set1 {k : Nat} {w : World} {u0 u1 : Value} (h : Bx2 w k u0 u1) (x : Value) : Bx2 (w.setCell ⟨k, 1, none⟩ x) k u0 x := by
  obtain ⟨h0, h1, h2, f1, f2⟩ := h
  exact ⟨by simpa using h0, (World.cell?_setCell_other _ _ _ _ (by simp)).trans h1, World.cell?_setCell_same _ _ _ h2, by simpa using f1, by simpa using f2⟩
theorem Bx2.kept {w w' : World} {q : Option Nat} {k : Nat} {u0 u1 : Value} (h : Bx2 w k u0 u1) (hg : w.grownBy w' q) (hq : some k ≠ q) : Bx2 w' k u0 u1 := by
  obtain ⟨h0, h1, h2, f1, f2⟩ := h
  have cc : ∀ i, w'.cell? ⟨k, i, none⟩ = w.cell? ⟨k, i, none⟩ := fun i => cell_grown hg h0 hq
  have ff : ∀ i, w'.frozen? ⟨k, i, none⟩ = w.frozen? ⟨k, i, none⟩ := fun i => by have := hg.block k h0 hq; simp only [World.frozen?]; rw [this]
  exact ⟨Nat.lt_of_lt_of_le h0 hg.size, by rw [cc]; exact h1, by rw [cc]; exact h2, by rw [ff]; exact f1, by rw [ff]; exact f2⟩
theorem ownS {w : World} {base : Nat} {T : TypeId} {s n c : Nat} {a : Option Addr} {F : Nat → Value} (h : w.ownsRow base T s (.slice a n c) n ((List.range (n * s)).map F)) : SrcC w a (n * s) F := by
  obtain ⟨a', c', e, _, _, q⟩ := ownF_src h
  simp at e
  obtain ⟨rfl, rfl⟩ := e
  exact q
end Go.Proofs.YtcakhfobkbgfoaaDoor
namespace Go.Proofs.YtcakhfobkbgfoaaDoor
open Go.RowKit
set_option linter.unusedVariables false
def Tx3 (w : World) (k : Nat) (u0 u1 u2 : Value) : Prop := k < w.heap.size ∧ w.cell? ⟨k, 0, none⟩ = some u0 ∧ w.cell? ⟨k, 1, none⟩ = some u1 ∧ w.cell? ⟨k, 2, none⟩ = some u2 ∧ w.frozen? ⟨k, 0, none⟩ = false ∧ w.frozen? ⟨k, 1, none⟩ = false ∧ w.frozen? ⟨k, 2, none⟩ = false
theorem Tx3.belowB {k B : Nat} {w w' : World} {u0 u1 u2 : Value} (h : Tx3 w k u0 u1 u2) (hw : Below B w w') (hk : k < B) : Tx3 w' k u0 u1 u2 := by
  obtain ⟨h0, h1, h2, h3, f1, f2, f3⟩ := h
  exact ⟨Nat.lt_of_lt_of_le h0 hw.size, by rw [hw.cell (p := ⟨k, 0, none⟩) hk]; exact h1, by rw [hw.cell (p := ⟨k, 1, none⟩) hk]; exact h2, by rw [hw.cell (p := ⟨k, 2, none⟩) hk]; exact h3, by rw [hw.frozen (p := ⟨k, 0, none⟩) hk]; exact f1, by rw [hw.frozen (p := ⟨k, 1, none⟩) hk]; exact f2, by rw [hw.frozen (p := ⟨k, 2, none⟩) hk]; exact f3⟩
theorem Tx3.below {k : Nat} {w w' : World} {u0 u1 u2 : Value} (h : Tx3 w k u0 u1 u2) (hw : Below w.heap.size w w') : Tx3 w' k u0 u1 u2 := h.belowB hw h.1
theorem Tx3.but {w w' : World} {k q : Nat} {u0 u1 u2 : Value} (h : Tx3 w k u0 u1 u2) (hb : But q w w') (hq : k ≠ q) : Tx3 w' k u0 u1 u2 := by
  obtain ⟨h0, h1, h2, h3, f1, f2, f3⟩ := h
  exact ⟨Nat.lt_of_lt_of_le h0 hb.2.2.2.1, by rw [hb.cell h0 hq]; exact h1, by rw [hb.cell h0 hq]; exact h2, by rw [hb.cell h0 hq]; exact h3, by rw [hb.frozen h0 hq]; exact f1, by rw [hb.frozen h0 hq]; exact f2, by rw [hb.frozen h0 hq]; exact f3⟩
theorem Tx3.alloc {k : Nat} {w : World} {u0 u1 u2 : Value} (h : Tx3 w k u0 u1 u2) (o : Obj) : Tx3 (w.alloc o) k u0 u1 u2 := h.below ((Below.refl _ _).alloc (Nat.le_refl _) _)
theorem Tx3.new (w : World) (u0 u1 u2 : Value) (T : TypeId) : Tx3 (w.alloc (.cells #[u0, u1, u2] T)) w.heap.size u0 u1 u2 := ⟨by simp, by simp, by simp, by simp, by simp, by simp, by simp⟩
theorem Tx3.drew {k : Nat} {w : World} {u0 u1 u2 : Value} (h : Tx3 w k u0 u1 u2) : Tx3 w.drew k u0 u1 u2 := h
theorem Tx3.setO {k j : Nat} {w : World} {u0 u1 u2 : Value} (h : Tx3 w k u0 u1 u2) (hk : j ≠ k) (o : Nat) (u : Value) : Tx3 (w.setCell ⟨j, o, none⟩ u) k u0 u1 u2 := by
  have hne : ∀ q, (⟨j, o, none⟩ : Addr) ≠ ⟨k, q, none⟩ := fun q e => hk (congrArg Addr.block e)
  obtain ⟨h0, h1, h2, h3, f1, f2, f3⟩ := h
  exact ⟨by simpa using h0, by rw [World.cell?_setCell_other _ _ _ _ (hne _)]; exact h1, by rw [World.cell?_setCell_other _ _ _ _ (hne _)]; exact h2, by rw [World.cell?_setCell_other _ _ _ _ (hne _)]; exact h3, by simpa using f1, by simpa using f2, by simpa using f3⟩
theorem Tx3.set0 {k : Nat} {w : World} {u0 u1 u2 : Value} (h : Tx3 w k u0 u1 u2) (x : Value) : Tx3 (w.setCell ⟨k, 0, none⟩ x) k x u1 u2 := by
  obtain ⟨h0, h1, h2, h3, f1, f2, f3⟩ := h
  exact ⟨by simpa using h0, World.cell?_setCell_same _ _ _ h1, (World.cell?_setCell_other _ _ _ _ (by simp)).trans h2, (World.cell?_setCell_other _ _ _ _ (by simp)).trans h3, by simpa using f1, by simpa using f2, by simpa using f3⟩
theorem Tx3.set1 {k : Nat} {w : World} {u0 u1 u2 : Value} (h : Tx3 w k u0 u1 u2) (x : Value) : Tx3 (w.setCell ⟨k, 1, none⟩ x) k u0 x u2 := by
  obtain ⟨h0, h1, h2, h3, f1, f2, f3⟩ := h
  exact ⟨by simpa using h0, (World.cell?_setCell_other _ _ _ _ (by simp)).trans h1, World.cell?_setCell_same _ _ _ h2, (World.cell?_setCell_other _ _ _ _ (by simp)).trans h3, by simpa using f1, by simpa using f2, by simpa using f3⟩
theorem Tx3.set2 {k : Nat} {w : World} {u0 u1 u2 : Value} (h : Tx3 w k u0 u1 u2) (x : Value) : Tx3 (w.setCell ⟨k, 2, none⟩ x) k u0 u1 x := by
  obtain ⟨h0, h1, h2, h3, f1, f2, f3⟩ := h
  exact ⟨by simpa using h0, (World.cell?_setCell_other _ _ _ _ (by simp)).trans h1, (World.cell?_setCell_other _ _ _ _ (by simp)).trans h2, World.cell?_setCell_same _ _ _ h3, by simpa using f1, by simpa using f2, by simpa using f3⟩
theorem Tx3.kept {w w' : World} {q : Option Nat} {k : Nat} {u0 u1 u2 : Value} (h : Tx3 w k u0 u1 u2) (hg : w.grownBy w' q) (hq : some k ≠ q) : Tx3 w' k u0 u1 u2 := by
  obtain ⟨h0, h1, h2, h3, f1, f2, f3⟩ := h
  have cc : ∀ i, w'.cell? ⟨k, i, none⟩ = w.cell? ⟨k, i, none⟩ := fun i => cell_grown hg h0 hq
  have ff : ∀ i, w'.frozen? ⟨k, i, none⟩ = w.frozen? ⟨k, i, none⟩ := fun i => by have := hg.block k h0 hq; simp only [World.frozen?]; rw [this]
  exact ⟨Nat.lt_of_lt_of_le h0 hg.size, by rw [cc]; exact h1, by rw [cc]; exact h2, by rw [cc]; exact h3, by rw [ff]; exact f1, by rw [ff]; exact f2, by rw [ff]; exact f3⟩
end Go.Proofs.YtcakhfobkbgfoaaDoor
namespace Go.Proofs.YtcakhfobkbgfoaaDoor
open Go.RowKit
set_option linter.unusedVariables false
theorem below_dq {B : Nat} {w wr : World} (h : Below B w wr) (n : Nat) : Below B w (wr.drewN n) := ⟨h.os, h.tape, h.output, h.size, h.block⟩
/- The error beside an answer: none where it is told. -/
def Fv (b : Bool) (v : Value) : Prop := match b with | true => v = .nilIface | false => ∃ a : Addr, v = .iface 169 (.pointer (some a))
theorem Fv.no {b : Bool} {v : Value} (h : Fv b v) (e : b = false) : ∃ a : Addr, v = .iface 169 (.pointer (some a)) := by subst e; exact h
theorem Fv.yes {b : Bool} {v : Value} (h : Fv b v) (e : b = true) : v = .nilIface := by subst e; exact h
theorem fv_no {b : Bool} (e : b = false) (a : Addr) : Fv b (.iface 169 (.pointer (some a))) := by subst e; exact ⟨a, rfl⟩
theorem fv_yes {b : Bool} (e : b = true) : Fv b .nilIface := by subst e; exact rfl
/- The errors that these functions tell, in their variables. -/
def EM (w : World) : Prop := ErE w 7 ∧ ErE w 8 ∧ ErE w 2
theorem EM.below {w w' : World} (h : EM w) (hb : Below w.heap.size w w') : EM w' := ⟨h.1.below hb, h.2.1.below hb, h.2.2.below hb⟩
def ES (w : World) : Prop := ErE w 1 ∧ ErE w 7 ∧ ErE w 8 ∧ ErE w 2
theorem ES.below {w w' : World} (h : ES w) (hb : Below w.heap.size w w') : ES w' := ⟨h.1.below hb, h.2.1.below hb, h.2.2.1.below hb, h.2.2.2.below hb⟩
theorem ES.em {w : World} (h : ES w) : EM w := h.2
theorem ErE.cell {w : World} {g : Nat} (h : ErE w g) : ∃ a : Addr, w.cell? ⟨g, 0, none⟩ = some (.iface 169 (.pointer (some a))) := by obtain ⟨a, h⟩ := h; exact ⟨a, h.1⟩
theorem neNo (v : Value) (w : World) : (binOp .neq 83 (.iface 169 v) .nilIface).run Tryd.prog w = .ok (.bool true) w := run_neq_iface_nil w 83 (by kernel_rfl) _ _
theorem neYes (w : World) : (binOp .neq 83 .nilIface .nilIface).run Tryd.prog w = .ok (.bool false) w := run_neq_nil_nil_at w 83 (by kernel_rfl)
theorem eqNo (v : Value) (w : World) : (binOp .eql 83 (.iface 169 v) .nilIface).run Tryd.prog w = .ok (.bool false) w := run_eql_iface_nil w 83 (by kernel_rfl) _ _
theorem eqYes (w : World) : (binOp .eql 83 .nilIface .nilIface).run Tryd.prog w = .ok (.bool true) w := run_eql_nil_nil_at w 83 (by kernel_rfl)
set_option maxRecDepth 100000 in
set_option maxHeartbeats 4000000 in
theorem outFault_any (n d x : Int) (w : World) (E : EM w) :
    Calls Tryd.prog 95 #[.agg #[.int .i64 n, .int .i64 d, .int .i64 x]] w fun e w' => (∃ v, e = .returned v ∧ Fv (frB n d x) v) ∧ Below w.heap.size w w' := by
  have B := Below.nw w (.cells #[.int .i64 n, .int .i64 d, .int .i64 x] 86)
  have N := Tx3.new w (.int .i64 n) (.int .i64 d) (.int .i64 x) 86
  have CK := fun w' => okd_any n d w'
  cases h1 : okD n d
  · have HF : Hid (frB n d x = false) := by unfold Hid frB; rw [h1]; rfl
    rw [h1] at CK
    clear h1
    go_enter Tryd.func95, Tryd.ntmps95
    go_upto_region 1 with fail
    generalize w.alloc (.cells #[.int .i64 n, .int .i64 d, .int .i64 x] 86) = v at *
    obtain ⟨n0, n1, n2, n3, n4, n5, n6⟩ := id N
    go_wp2_with fail
    refine (CK _).mono ?_
    rintro e v1 ⟨rfl, hb⟩
    clear n0 n1 n2 n3 n4 n5 n6
    replace B := B.trans (hb.mono B.size)
    obtain ⟨a, k0⟩ := (E.1.below B).cell
    go_wp2_with fail
    go_ret
    exact ⟨⟨_, rfl, fv_no HF.out a⟩, B⟩
  rw [h1] at CK
  by_cases h2 : x < 1
  · have HF : Hid (frB n d x = false) := by unfold Hid frB lgB; rw [decide_eq_false (by omega)]; simp
    clear h1
    go_enter Tryd.func95, Tryd.ntmps95
    go_upto_region 1 with fail
    generalize w.alloc (.cells #[.int .i64 n, .int .i64 d, .int .i64 x] 86) = v at *
    obtain ⟨n0, n1, n2, n3, n4, n5, n6⟩ := id N
    go_wp2_with fail
    refine (CK _).mono ?_
    rintro e v1 ⟨rfl, hb⟩
    clear n0 n1 n2 n3 n4 n5 n6
    replace N := N.below hb
    replace B := B.trans (hb.mono B.size)
    obtain ⟨a, k0⟩ := (E.2.1.below B).cell
    obtain ⟨n0, n1, n2, n3, n4, n5, n6⟩ := id N
    go_wp2_with fail
    go_ret
    exact ⟨⟨_, rfl, fv_no HF.out a⟩, B⟩
  by_cases h3 : 1000000000000 < x
  · have HF : Hid (frB n d x = false) := by unfold Hid frB lgB; rw [decide_eq_false (by omega)]; simp
    clear h1
    go_enter Tryd.func95, Tryd.ntmps95
    go_upto_region 1 with fail
    generalize w.alloc (.cells #[.int .i64 n, .int .i64 d, .int .i64 x] 86) = v at *
    obtain ⟨n0, n1, n2, n3, n4, n5, n6⟩ := id N
    go_wp2_with fail
    refine (CK _).mono ?_
    rintro e v1 ⟨rfl, hb⟩
    clear n0 n1 n2 n3 n4 n5 n6
    replace N := N.below hb
    replace B := B.trans (hb.mono B.size)
    obtain ⟨a, k0⟩ := (E.2.1.below B).cell
    obtain ⟨n0, n1, n2, n3, n4, n5, n6⟩ := id N
    go_wp2_with fail
    go_ret
    exact ⟨⟨_, rfl, fv_no HF.out a⟩, B⟩
  have HF : Hid (frB n d x = true) := by unfold Hid frB lgB; rw [h1, decide_eq_true (by omega)]; rfl
  clear h1
  go_enter Tryd.func95, Tryd.ntmps95
  go_upto_region 1 with fail
  generalize w.alloc (.cells #[.int .i64 n, .int .i64 d, .int .i64 x] 86) = v at *
  obtain ⟨n0, n1, n2, n3, n4, n5, n6⟩ := id N
  go_wp2_with fail
  refine (CK _).mono ?_
  rintro e v1 ⟨rfl, hb⟩
  clear n0 n1 n2 n3 n4 n5 n6
  replace N := N.below hb
  replace B := B.trans (hb.mono B.size)
  obtain ⟨n0, n1, n2, n3, n4, n5, n6⟩ := id N
  go_wp2_with fail
  go_ret
  exact ⟨⟨_, rfl, fv_yes HF.out⟩, B⟩
theorem moi_any (n d x : Int) (w : World) : Calls Tryd.prog 96 #[.agg #[.int .i64 n, .int .i64 d], .int .i64 x] w fun e w' => e = .returned (.tuple #[.int .i64 (moT n d x), .bool (moB n d x)]) ∧ Below w.heap.size w w' := implMostTime_any n d x w
theorem lei_any (n d x : Int) (w : World) : Calls Tryd.prog 73 #[.agg #[.int .i64 n, .int .i64 d], .int .i64 x] w fun e w' => e = .returned (.tuple #[.int .i64 (leT n d x), .bool (leB n d x)]) ∧ Below w.heap.size w w' := implLeastTime_any n d x w
set_option maxRecDepth 100000 in
set_option maxHeartbeats 4000000 in
theorem outMost_any (n d x : Int) (w : World) (E : EM w) :
    Calls Tryd.prog 71 #[.agg #[.int .i64 n, .int .i64 d, .int .i64 x]] w fun e w' => (∃ v, e = .returned (.tuple #[.int .i64 (mzT n d x), v]) ∧ Fv (mzB n d x) v) ∧ Below w.heap.size w w' := by
  have B := Below.nw w (.cells #[.int .i64 n, .int .i64 d, .int .i64 x] 86)
  have N := Tx3.new w (.int .i64 n) (.int .i64 d) (.int .i64 x) 86
  have CF := fun w' E => outFault_any n d x w' E
  have CM := fun w' => moi_any n d x w'
  have nN := neNo
  have nY := neYes
  cases h1 : frB n d x
  · obtain ⟨e1, e2⟩ := mz_bad h1
    rw [e2]
    have HF : Hid (mzB n d x = false) := e1
    rw [h1] at CF
    clear h1 e1 e2 CM
    go_enter Tryd.func71, Tryd.ntmps71
    go_upto_region 1 with fail
    generalize w.alloc (.cells #[.int .i64 n, .int .i64 d, .int .i64 x] 86) = v at *
    obtain ⟨n0, n1, n2, n3, n4, n5, n6⟩ := id N
    go_wp2_with fail
    refine (CF _ (E.below B)).mono ?_
    rintro e v1 ⟨⟨u, rfl, a, rfl⟩, hb⟩
    clear n0 n1 n2 n3 n4 n5 n6
    replace B := B.trans (hb.mono B.size)
    go_wp2_with fail
    go_ret2
    exact ⟨⟨_, rfl, fv_no HF.out a⟩, B⟩
  obtain ⟨e1, e2⟩ := mz_fr h1
  rw [e1, e2]
  rw [h1] at CF
  clear h1 e1 e2
  have Z : moB n d x = false → moT n d x = 0 := fun h => sel_f h _
  generalize moT n d x = T at *
  generalize moB n d x = Q at *
  go_enter Tryd.func71, Tryd.ntmps71
  go_upto_region 1 with fail
  generalize w.alloc (.cells #[.int .i64 n, .int .i64 d, .int .i64 x] 86) = v at *
  obtain ⟨n0, n1, n2, n3, n4, n5, n6⟩ := id N
  go_wp2_with fail
  refine (CF _ (E.below B)).mono ?_
  rintro e v1 ⟨⟨u, rfl, rfl⟩, hb⟩
  clear n0 n1 n2 n3 n4 n5 n6
  replace N := N.below hb
  replace B := B.trans (hb.mono B.size)
  clear hb
  obtain ⟨n0, n1, n2, n3, n4, n5, n6⟩ := id N
  go_wp2_with fail
  refine (CM _).mono ?_
  rintro e v2 ⟨rfl, hb⟩
  clear n0 n1 n2 n3 n4 n5 n6
  replace B := B.trans (hb.mono B.size)
  cases Q
  · obtain ⟨a, k0⟩ := (E.2.2.below B).cell
    obtain rfl := Z rfl
    go_wp2_with fail
    go_quiet (fail)
    go_wp2_with fail
    go_ret2
    exact ⟨⟨_, rfl, fv_no rfl a⟩, below_dq B nq⟩
  · go_wp2_with fail
    go_ret2
    exact ⟨⟨_, rfl, fv_yes rfl⟩, B⟩
/- The variadic sum of two times. -/
def twB (x y : Int) : Bool := !decide (1000000000000 < x + y)
def twI (x y : Int) : Int := sel (twB x y) (x + y)
theorem tw_no {x y : Int} (h : 1000000000000 < x + y) : twB x y = false ∧ twI x y = 0 := by
  have e : twB x y = false := by unfold twB; rw [decide_eq_true h]; rfl
  exact ⟨e, sel_f e _⟩
theorem tw_yes {x y : Int} (h : ¬ 1000000000000 < x + y) : twB x y = true ∧ twI x y = x + y := by
  have e : twB x y = true := by unfold twB; rw [decide_eq_false h]; rfl
  exact ⟨e, sel_t e _⟩
def pS (x y : Int) : Nat → Int | 0 => 0 | 1 => x | _ => x + y
set_option maxRecDepth 100000 in
set_option maxHeartbeats 4000000 in
theorem together_two (x y : Int) (j : Nat) (w : World) (E : ErE w 2) (c0 : w.cell? ⟨j, 0, none⟩ = some (.int .i64 x)) (c1 : w.cell? ⟨j, 1, none⟩ = some (.int .i64 y)) (hx : -1000000000000 ≤ x ∧ x ≤ 1000000000000) (hy : 0 ≤ y ∧ y ≤ 1000000000000) :
    Calls Tryd.prog 92 #[.slice (some ⟨j, 0, none⟩) 2 2] w fun e w' => (∃ v, e = .returned (.tuple #[.int .i64 (twI x y), v]) ∧ Fv (twB x y) v) ∧ Below w.heap.size w w' := by
  obtain ⟨a, k0⟩ := E.cell
  have hw : wrap64 (x + y) = x + y := Go.IntWalk.wrap64_in _ ⟨by omega, by omega⟩
  have hw1 : wrap64 x = x := Go.IntWalk.wrap64_in _ ⟨by omega, by omega⟩
  clear E
  go_enter Tryd.func92, Tryd.ntmps92
  go_wp2_with fail
  go_loopw [4, 9] (fun s4 i wr => ∃ k : Nat, k ≤ 2 ∧ i = .int .i64 (k : Int) ∧ s4 = .int .i64 (pS x y k) ∧ w = wr) (fun _ i _ => 2 - (intOf i).toNat)
  case atStart => exact ⟨0, Nat.zero_le _, rfl, rfl, by first | rfl | trivial⟩
  case round =>
    obtain ⟨k, hk, rfl, rfl, rfl⟩ := hrel
    match k, hk with
    | 0, _ =>
      go_wp2_with fail
      go_roundw
      case rel => exact ⟨1, by omega, by rfl, by simp [pS, hw1], by first | rfl | trivial⟩
      case measure => simp [intOf]
    | 1, _ =>
      go_wp2_with fail
      go_roundw
      case rel => exact ⟨2, by omega, by rfl, by simp [pS, hw], by first | rfl | trivial⟩
      case measure => simp [intOf]
    | 2, _ =>
      have hp : pS x y 2 = x + y := rfl
      rw [hp]
      by_cases hg : 1000000000000 < x + y
      · have HG : Hid (twB x y = false ∧ twI x y = 0) := tw_no hg
        go_wp2_with fail
        go_quiet (fail)
        go_wp2_with fail
        go_ret2
        exact ⟨⟨.iface 169 (.pointer (some a)), by rw [HG.out.2]; rfl, fv_no HG.out.1 a⟩, below_dq (Below.refl _ _) nq⟩
      · have HG : Hid (twB x y = true ∧ twI x y = x + y) := tw_yes hg
        go_wp2_with fail
        go_ret2
        exact ⟨⟨.nilIface, by rw [HG.out.2]; rfl, fv_yes HG.out.1⟩, Below.refl _ _⟩
theorem ErE.lt {w : World} {g : Nat} (h : ErE w g) : g < w.heap.size := by obtain ⟨a, h⟩ := h; exact h.2.1
theorem keepX {w : World} {g j k : Nat} {x u : Value} (h : w.cell? ⟨g, 0, none⟩ = some x) (hj : g ≠ j) : (w.setCell ⟨j, k, none⟩ u).cell? ⟨g, 0, none⟩ = some x := by
  rw [World.cell?_of_block (w := w) (Below.heap_setCell _ _ _ _ hj)]
  exact h
theorem keepY {w : World} {g j k o : Nat} {x u : Value} (h : w.cell? ⟨g, o, none⟩ = some x) (hj : j ≠ g) : (w.setCell ⟨j, k, none⟩ u).cell? ⟨g, o, none⟩ = some x := (World.cell?_setCell_other _ _ _ _ (fun e => hj (congrArg Addr.block e))).trans h
theorem below_set2 {B j : Nat} {w w' : World} (h : Below B w w') (hj : B ≤ j) (x y : Value) : Below B w ((w'.setCell ⟨j, 0, none⟩ x).setCell ⟨j, 1, none⟩ y) := (h.setCell (p := ⟨j, 0, none⟩) hj x).setCell (p := ⟨j, 1, none⟩) hj y
theorem sel_tt (x : Int) : sel true x = x := rfl
theorem sel_ff (x : Int) : sel false x = 0 := rfl
set_option maxRecDepth 100000 in
set_option maxHeartbeats 8000000 in
theorem outSpan_any (lo hi n d x : Int) (w : World) (E : ES w) :
    Calls Tryd.prog 67 #[.agg #[.int .i64 n, .int .i64 d, .int .i64 x], .agg #[.int .i64 lo, .int .i64 hi]] w fun e w' => (∃ v, e = .returned (.tuple #[.agg #[.int .i64 (gsL lo hi n d x), .int .i64 (gsH lo hi n d x)], v]) ∧ Fv (gsB lo hi n d x) v) ∧ Below w.heap.size w w' := by
  have A0 := Below.nw w (.cells #[.int .i64 n, .int .i64 d, .int .i64 x] 86)
  have A1 := Below.nw (w.alloc (.cells #[.int .i64 n, .int .i64 d, .int .i64 x] 86)) (.cells #[.int .i64 lo, .int .i64 hi] 25)
  have A2 := Below.nw ((w.alloc (.cells #[.int .i64 n, .int .i64 d, .int .i64 x] 86)).alloc (.cells #[.int .i64 lo, .int .i64 hi] 25)) (.cells #[.int .i64 0, .int .i64 0] 25)
  have N := ((Tx3.new w (.int .i64 n) (.int .i64 d) (.int .i64 x) 86).below A1).below A2
  have P := (Bx2.new (w.alloc (.cells #[.int .i64 n, .int .i64 d, .int .i64 x] 86)) (.int .i64 lo) (.int .i64 hi) 25).below A2
  have K := Bx2.new ((w.alloc (.cells #[.int .i64 n, .int .i64 d, .int .i64 x] 86)).alloc (.cells #[.int .i64 lo, .int .i64 hi] 25)) (.int .i64 0) (.int .i64 0) 25
  have B := (A0.trans (A1.mono A0.size)).trans (A2.mono (A0.trans (A1.mono A0.size)).size)
  simp only [World.size_alloc] at P K
  clear A0 A1 A2
  have CM := fun w' E => outMost_any n d x w' E
  have CI := fun w' => ok_any lo hi w'
  have HK : w.heap.size ≤ w.heap.size + 1 + 1 := by omega
  have nN := neNo
  have nY := neYes
  cases h1 : mzB n d x
  · have HG : Hid (gsB lo hi n d x = false) := gs_mz h1
    obtain ⟨e1, e2⟩ := gs_no HG.out
    rw [e1, e2]
    rw [h1] at CM
    clear h1 e1 e2 CI
    generalize mzT n d x = T at *
    go_enter Tryd.func67, Tryd.ntmps67
    go_upto_region 1 with fail
    generalize ((w.alloc (.cells #[.int .i64 n, .int .i64 d, .int .i64 x] 86)).alloc (.cells #[.int .i64 lo, .int .i64 hi] 25)).alloc (.cells #[.int .i64 0, .int .i64 0] 25) = v at *
    generalize w.heap.size + 1 + 1 = jk at *
    obtain ⟨n0, n1, n2, n3, n4, n5, n6⟩ := id N
    go_wp2_with fail
    refine (CM _ (E.em.below B)).mono ?_
    rintro e v1 ⟨⟨u, rfl, a, rfl⟩, hb⟩
    clear n0 n1 n2 n3 n4 n5 n6
    replace N := N.below hb; replace P := P.below hb; replace K := K.below hb; replace B := B.trans (hb.mono B.size); clear hb
    obtain ⟨k0, k1, k2, k3, k4⟩ := id K
    go_wp2_with fail
    exact bodyPost_ret (v := (.tuple #[.agg #[.int .i64 0, .int .i64 0], (.iface 169 (.pointer (some a)))])) (by simp (maxDischargeDepth := 6) [results, Tryd.results67, go_sem, *]) rfl ⟨⟨_, rfl, fv_no HG.out a⟩, below_set2 B HK _ _⟩
  cases h2 : okI lo hi
  · have HG : Hid (gsB lo hi n d x = false) := gs_iv h1 h2
    obtain ⟨e1, e2⟩ := gs_no HG.out
    rw [e1, e2]
    rw [h1] at CM
    rw [h2] at CI
    clear h1 e1 e2 h2
    generalize mzT n d x = T at *
    go_enter Tryd.func67, Tryd.ntmps67
    go_upto_region 1 with fail
    generalize ((w.alloc (.cells #[.int .i64 n, .int .i64 d, .int .i64 x] 86)).alloc (.cells #[.int .i64 lo, .int .i64 hi] 25)).alloc (.cells #[.int .i64 0, .int .i64 0] 25) = v at *
    generalize w.heap.size + 1 + 1 = jk at *
    obtain ⟨n0, n1, n2, n3, n4, n5, n6⟩ := id N
    go_wp2_with fail
    refine (CM _ (E.em.below B)).mono ?_
    rintro e v1 ⟨⟨u, rfl, rfl⟩, hb⟩
    clear n0 n1 n2 n3 n4 n5 n6
    replace N := N.below hb; replace P := P.below hb; replace K := K.below hb; replace B := B.trans (hb.mono B.size); clear hb
    obtain ⟨p0, p1, p2, p3, p4⟩ := id P
    go_wp2_with fail
    refine (CI _).mono ?_
    rintro e v2 ⟨rfl, hb⟩
    clear p0 p1 p2 p3 p4
    replace N := N.below hb; replace P := P.below hb; replace K := K.below hb; replace B := B.trans (hb.mono B.size); clear hb
    obtain ⟨a, g0⟩ := (E.1.below B).cell
    obtain ⟨k0, k1, k2, k3, k4⟩ := id K
    have hgk : 1 ≠ jk := Nat.ne_of_lt (Nat.lt_of_lt_of_le E.1.lt HK)
    go_upto_region 5 with fail
    refine wp_region_held_drew (S := (fun w' => w'.cell? ⟨1, 0, none⟩ = some (.iface 169 (.pointer (some a))))) (by kernel_rfl) ?_ (fun hHeld => ?_)
    · first | exact g0 | exact keepX (keepX g0 hgk) hgk
    refine wpAnyH_take (i := 0) (v := ?_) (by rw [List.getElem?_toArray]; rfl) (by kernel_rfl) (by kernel_rfl) (by kernel_rfl) (by intro _ _ _ h; exact h) (Or.inl ⟨by rfl, ?_⟩) (by assumption) ?_
    rotate_left
    · (intro w hSw; (try dsimp only at hSw); go_simp; all_goals with_reducible rfl)
    (try simp only [Act.put, List.setIfInBounds_toArray, List.set_cons_zero, List.set_cons_succ])
    refine wpAnyH_take (i := 1) (v := ?_) (by rw [List.getElem?_toArray]; rfl) (by kernel_rfl) (by kernel_rfl) (by kernel_rfl) (by intro _ _ _ h; exact h) (Or.inl ⟨by rfl, ?_⟩) (by assumption) ?_
    rotate_left
    · (intro w hSw; (try dsimp only at hSw); go_simp; all_goals with_reducible rfl)
    (try simp only [Act.put, List.setIfInBounds_toArray, List.set_cons_zero, List.set_cons_succ])
    refine wpAnyH_ready (rs := [2]) (by kernel_rfl) (by simp) ?_
    refine AllReadyH.cons (by rw [List.getElem?_toArray]; rfl) (fun K hK => ?_) AllReadyH.nil
    go_simp
    refine hK.out _ _ ?_ (fun hHeld => ?_)
    · first | exact g0 | exact keepX (keepX g0 hgk) hgk
    clear hK K
    (try simp only [Act.put, List.setIfInBounds_toArray, List.set_cons_zero, List.set_cons_succ])
    refine wpAnyH_take (i := 3) (v := ?_) (by rw [List.getElem?_toArray]; rfl) (by kernel_rfl) (by kernel_rfl) (by kernel_rfl) (by intro _ _ _ h; exact h) (Or.inl ⟨by rfl, ?_⟩) (by assumption) ?_
    rotate_left
    · (intro w hSw; (try dsimp only at hSw); go_simp; all_goals with_reducible rfl)
    (try simp only [Act.put, List.setIfInBounds_toArray, List.set_cons_zero, List.set_cons_succ])
    refine wpAnyH_done (by kernel_rfl) ?_ _
    go_wp2_with fail
    exact bodyPost_ret (v := (.tuple #[.agg #[.int .i64 0, .int .i64 0], (.iface 169 (.pointer (some a)))])) (by simp (maxDischargeDepth := 6) [results, Tryd.results67, go_sem, *]) rfl ⟨⟨_, rfl, fv_no HG.out a⟩, below_set2 (Below.drew B) HK _ _⟩
  have hq := okI_t h2
  have hp := mz_pos h1
  by_cases h3 : 1000000000000 < hi + mzT n d x
  · have HG : Hid (gsB lo hi n d x = false) := gs_far h1 h3
    obtain ⟨e1, e2⟩ := gs_no HG.out
    rw [e1, e2]
    rw [h1] at CM
    rw [h2] at CI
    clear h1 e1 e2 h2
    generalize mzT n d x = T at *
    go_enter Tryd.func67, Tryd.ntmps67
    go_upto_region 1 with fail
    generalize ((w.alloc (.cells #[.int .i64 n, .int .i64 d, .int .i64 x] 86)).alloc (.cells #[.int .i64 lo, .int .i64 hi] 25)).alloc (.cells #[.int .i64 0, .int .i64 0] 25) = v at *
    generalize w.heap.size + 1 + 1 = jk at *
    obtain ⟨n0, n1, n2, n3, n4, n5, n6⟩ := id N
    go_wp2_with fail
    refine (CM _ (E.em.below B)).mono ?_
    rintro e v1 ⟨⟨u, rfl, rfl⟩, hb⟩
    clear n0 n1 n2 n3 n4 n5 n6
    replace N := N.below hb; replace P := P.below hb; replace K := K.below hb; replace B := B.trans (hb.mono B.size); clear hb
    obtain ⟨p0, p1, p2, p3, p4⟩ := id P
    go_wp2_with fail
    refine (CI _).mono ?_
    rintro e v2 ⟨rfl, hb⟩
    clear p0 p1 p2 p3 p4
    replace N := N.below hb; replace P := P.below hb; replace K := K.below hb; replace B := B.trans (hb.mono B.size); clear hb
    obtain ⟨p0, p1, p2, p3, p4⟩ := id P
    have A3 := Below.nw v2 (.cells #[.int .i64 hi, .int .i64 T] 3)
    go_wp2_with fail
    refine (together_two hi T v2.heap.size _ (E.2.2.2.below (B.trans (A3.mono B.size))) (by simp) (by simp) ⟨by omega, by omega⟩ ⟨by omega, by omega⟩).mono ?_
    rintro e v3 ⟨⟨u, rfl, hv⟩, hb⟩
    obtain ⟨a, rfl⟩ := hv.no (tw_no h3).1
    rw [(tw_no h3).2]
    clear p0 p1 p2 p3 p4
    replace hb := A3.trans (hb.mono A3.size)
    replace N := N.below hb; replace P := P.below hb; replace K := K.below hb; replace B := B.trans (hb.mono B.size); clear hb
    obtain ⟨k0, k1, k2, k3, k4⟩ := id K
    clear A3 hv hq hp h3
    go_wp2_with fail
    exact bodyPost_ret (v := (.tuple #[.agg #[.int .i64 0, .int .i64 0], (.iface 169 (.pointer (some a)))])) (by simp (maxDischargeDepth := 6) [results, Tryd.results67, go_sem, *]) rfl ⟨⟨_, rfl, fv_no HG.out a⟩, below_set2 B HK _ _⟩
  · obtain ⟨e1, e2, e3⟩ := gs_in h1 h2 h3
    have HG : Hid (gsB lo hi n d x = true) := e1
    rw [e2, e3]
    rw [h1] at CM
    rw [h2] at CI
    clear h1 e1 e2 e3 h2
    generalize mzT n d x = T at *
    go_enter Tryd.func67, Tryd.ntmps67
    go_upto_region 1 with fail
    generalize ((w.alloc (.cells #[.int .i64 n, .int .i64 d, .int .i64 x] 86)).alloc (.cells #[.int .i64 lo, .int .i64 hi] 25)).alloc (.cells #[.int .i64 0, .int .i64 0] 25) = v at *
    generalize w.heap.size + 1 + 1 = jk at *
    obtain ⟨n0, n1, n2, n3, n4, n5, n6⟩ := id N
    go_wp2_with fail
    refine (CM _ (E.em.below B)).mono ?_
    rintro e v1 ⟨⟨u, rfl, rfl⟩, hb⟩
    clear n0 n1 n2 n3 n4 n5 n6
    replace N := N.below hb; replace P := P.below hb; replace K := K.below hb; replace B := B.trans (hb.mono B.size); clear hb
    obtain ⟨p0, p1, p2, p3, p4⟩ := id P
    go_wp2_with fail
    refine (CI _).mono ?_
    rintro e v2 ⟨rfl, hb⟩
    clear p0 p1 p2 p3 p4
    replace N := N.below hb; replace P := P.below hb; replace K := K.below hb; replace B := B.trans (hb.mono B.size); clear hb
    obtain ⟨p0, p1, p2, p3, p4⟩ := id P
    have A3 := Below.nw v2 (.cells #[.int .i64 hi, .int .i64 T] 3)
    go_wp2_with fail
    refine (together_two hi T v2.heap.size _ (E.2.2.2.below (B.trans (A3.mono B.size))) (by simp) (by simp) ⟨by omega, by omega⟩ ⟨by omega, by omega⟩).mono ?_
    rintro e v3 ⟨⟨u, rfl, hv⟩, hb⟩
    obtain rfl := hv.yes (tw_yes (Int.not_lt.2 h3)).1
    rw [(tw_yes (Int.not_lt.2 h3)).2]
    clear p0 p1 p2 p3 p4
    replace hb := A3.trans (hb.mono A3.size)
    replace N := N.below hb; replace P := P.below hb; replace K := K.below hb; replace B := B.trans (hb.mono B.size); clear hb
    obtain ⟨k0, k1, k2, k3, k4⟩ := id K
    obtain ⟨p0, p1, p2, p3, p4⟩ := id P
    clear A3 hv hq hp h3
    go_wp2_with fail
    exact bodyPost_ret (v := (.tuple #[.agg #[.int .i64 lo, .int .i64 (hi + T)], .nilIface])) (by simp (maxDischargeDepth := 6) [results, Tryd.results67, go_sem, *]) rfl ⟨⟨_, rfl, fv_yes HG.out⟩, below_set2 B HK _ _⟩
set_option maxRecDepth 100000 in
set_option maxHeartbeats 8000000 in
theorem implGateSpan_any (lo hi n d x : Int) (w : World) (E : ES w) :
    Calls Tryd.prog 24 #[.agg #[.int .i64 lo, .int .i64 hi], .agg #[.int .i64 n, .int .i64 d], .int .i64 x] w fun e w' => e = .returned (.tuple #[.agg #[.int .i64 (gsL lo hi n d x), .int .i64 (gsH lo hi n d x)], .bool (gsB lo hi n d x)]) ∧ Below w.heap.size w w' := by
  have A0 := Below.nw w (.cells #[.int .i64 lo, .int .i64 hi] 25)
  have A1 := Below.nw (w.alloc (.cells #[.int .i64 lo, .int .i64 hi] 25)) (.cells #[.int .i64 n, .int .i64 d] 27)
  have A2 := Below.nw ((w.alloc (.cells #[.int .i64 lo, .int .i64 hi] 25)).alloc (.cells #[.int .i64 n, .int .i64 d] 27)) (.cells #[.int .i64 0, .int .i64 0] 25)
  have P := ((Bx2.new w (.int .i64 lo) (.int .i64 hi) 25).below A1).below A2
  have D := (Bx2.new (w.alloc (.cells #[.int .i64 lo, .int .i64 hi] 25)) (.int .i64 n) (.int .i64 d) 27).below A2
  have K := Bx2.new ((w.alloc (.cells #[.int .i64 lo, .int .i64 hi] 25)).alloc (.cells #[.int .i64 n, .int .i64 d] 27)) (.int .i64 0) (.int .i64 0) 25
  have B := (A0.trans (A1.mono A0.size)).trans (A2.mono (A0.trans (A1.mono A0.size)).size)
  simp only [World.size_alloc] at D K
  clear A0 A1 A2
  have CG := fun w' E => outSpan_any lo hi n d x w' E
  have HK : w.heap.size ≤ w.heap.size + 1 + 1 := by omega
  have eN := eqNo
  have eY := eqYes
  generalize gsL lo hi n d x = X at *
  generalize gsH lo hi n d x = Y at *
  generalize gsB lo hi n d x = Q at *
  go_enter Tryd.func24, Tryd.ntmps24
  go_upto_region 1 with fail
  generalize ((w.alloc (.cells #[.int .i64 lo, .int .i64 hi] 25)).alloc (.cells #[.int .i64 n, .int .i64 d] 27)).alloc (.cells #[.int .i64 0, .int .i64 0] 25) = v at *
  generalize w.heap.size + 1 + 1 = jk at *
  obtain ⟨p0, p1, p2, p3, p4⟩ := id P
  obtain ⟨d0, d1, d2, d3, d4⟩ := id D
  go_wp2_with fail
  refine (CG _ (E.below B)).mono ?_
  rintro e v1 ⟨⟨u, rfl, hv⟩, hb⟩
  clear p0 p1 p2 p3 p4
  clear d0 d1 d2 d3 d4
  replace K := K.below hb
  replace B := B.trans (hb.mono B.size)
  clear hb P D
  have NL := Below.nw v1 (.cells #[.int .i64 X, .int .i64 Y] 25)
  have Z := Bx2.new v1 (.int .i64 X) (.int .i64 Y) 25
  have hjk : jk ≠ v1.heap.size := Nat.ne_of_lt K.1
  go_upto_region 2 with fail
  replace K := K.below NL
  replace B := B.trans (NL.mono B.size)
  clear NL
  generalize v1.alloc (.cells #[.int .i64 X, .int .i64 Y] 25) = v2 at *
  generalize v1.heap.size = jz at *
  obtain ⟨k0, k1, k2, k3, k4⟩ := id K
  obtain ⟨z0, z1, z2, z3, z4⟩ := id Z
  cases Q
  · obtain ⟨a, rfl⟩ := hv
    refine wp_region_held_drew (S := (fun w' => w'.cell? ⟨jz, 0, none⟩ = some (.int .i64 X) ∧ w'.cell? ⟨jz, 1, none⟩ = some (.int .i64 Y))) (by kernel_rfl) ?_ (fun hHeld => ?_)
    · first | exact ⟨z1, z2⟩ | exact ⟨keepY (keepY z1 hjk) hjk, keepY (keepY z2 hjk) hjk⟩
    refine wpAnyH_take (i := 0) (v := ?_) (by rw [List.getElem?_toArray]; rfl) (by kernel_rfl) (by kernel_rfl) (by kernel_rfl) (by intro _ _ _ h; exact h) (Or.inl ⟨by rfl, ?_⟩) (by assumption) ?_
    rotate_left
    · (intro w hSw; (try dsimp only at hSw); go_simp; all_goals with_reducible rfl)
    (try simp only [Act.put, List.setIfInBounds_toArray, List.set_cons_zero, List.set_cons_succ])
    refine wpAnyH_take (i := 1) (v := ?_) (by rw [List.getElem?_toArray]; rfl) (by kernel_rfl) (by kernel_rfl) (by kernel_rfl) (by intro _ _ _ h; exact h) (Or.inl ⟨by rfl, ?_⟩) (by assumption) ?_
    rotate_left
    · (intro w hSw; (try dsimp only at hSw); go_simp; all_goals with_reducible rfl)
    (try simp only [Act.put, List.setIfInBounds_toArray, List.set_cons_zero, List.set_cons_succ])
    refine wpAnyH_take (i := 2) (v := ?_) (by rw [List.getElem?_toArray]; rfl) (by kernel_rfl) (by kernel_rfl) (by kernel_rfl) (by intro _ _ _ h; exact h) (Or.inl ⟨by rfl, ?_⟩) (by assumption) ?_
    rotate_left
    · (intro w hSw; (try dsimp only at hSw); go_simp; all_goals with_reducible rfl)
    (try simp only [Act.put, List.setIfInBounds_toArray, List.set_cons_zero, List.set_cons_succ])
    refine wpAnyH_ready (rs := [3]) (by kernel_rfl) (by simp) ?_
    refine AllReadyH.cons (by rw [List.getElem?_toArray]; rfl) (fun K hK => ?_) AllReadyH.nil
    go_simp
    refine hK.out _ _ ?_ (fun hHeld => ?_)
    · first | exact ⟨z1, z2⟩ | exact ⟨keepY (keepY z1 hjk) hjk, keepY (keepY z2 hjk) hjk⟩
    clear hK K
    (try simp only [Act.put, List.setIfInBounds_toArray, List.set_cons_zero, List.set_cons_succ])
    refine wpAnyH_take (i := 4) (v := ?_) (by rw [List.getElem?_toArray]; rfl) (by kernel_rfl) (by kernel_rfl) (by kernel_rfl) (by intro _ _ _ h; exact h) (Or.inl ⟨by rfl, ?_⟩) (by assumption) ?_
    rotate_left
    · (intro w hSw; (try dsimp only at hSw); go_simp; all_goals with_reducible rfl)
    (try simp only [Act.put, List.setIfInBounds_toArray, List.set_cons_zero, List.set_cons_succ])
    refine wpAnyH_done (by kernel_rfl) ?_ _
    go_wp2_with fail
    exact bodyPost_ret (v := (.tuple #[.agg #[.int .i64 X, .int .i64 Y], .bool false])) (by simp (maxDischargeDepth := 6) [results, Tryd.results24, go_sem, *]) rfl ⟨rfl, below_set2 (Below.drew B) HK _ _⟩
  · obtain rfl := hv
    refine wp_region_held_drew (S := (fun w' => w'.cell? ⟨jz, 0, none⟩ = some (.int .i64 X) ∧ w'.cell? ⟨jz, 1, none⟩ = some (.int .i64 Y))) (by kernel_rfl) ?_ (fun hHeld => ?_)
    · first | exact ⟨z1, z2⟩ | exact ⟨keepY (keepY z1 hjk) hjk, keepY (keepY z2 hjk) hjk⟩
    refine wpAnyH_take (i := 0) (v := ?_) (by rw [List.getElem?_toArray]; rfl) (by kernel_rfl) (by kernel_rfl) (by kernel_rfl) (by intro _ _ _ h; exact h) (Or.inl ⟨by rfl, ?_⟩) (by assumption) ?_
    rotate_left
    · (intro w hSw; (try dsimp only at hSw); go_simp; all_goals with_reducible rfl)
    (try simp only [Act.put, List.setIfInBounds_toArray, List.set_cons_zero, List.set_cons_succ])
    refine wpAnyH_take (i := 1) (v := ?_) (by rw [List.getElem?_toArray]; rfl) (by kernel_rfl) (by kernel_rfl) (by kernel_rfl) (by intro _ _ _ h; exact h) (Or.inl ⟨by rfl, ?_⟩) (by assumption) ?_
    rotate_left
    · (intro w hSw; (try dsimp only at hSw); go_simp; all_goals with_reducible rfl)
    (try simp only [Act.put, List.setIfInBounds_toArray, List.set_cons_zero, List.set_cons_succ])
    refine wpAnyH_take (i := 2) (v := ?_) (by rw [List.getElem?_toArray]; rfl) (by kernel_rfl) (by kernel_rfl) (by kernel_rfl) (by intro _ _ _ h; exact h) (Or.inl ⟨by rfl, ?_⟩) (by assumption) ?_
    rotate_left
    · (intro w hSw; (try dsimp only at hSw); go_simp; all_goals with_reducible rfl)
    (try simp only [Act.put, List.setIfInBounds_toArray, List.set_cons_zero, List.set_cons_succ])
    refine wpAnyH_ready (rs := [3]) (by kernel_rfl) (by simp) ?_
    refine AllReadyH.cons (by rw [List.getElem?_toArray]; rfl) (fun K hK => ?_) AllReadyH.nil
    go_simp
    refine hK.out _ _ ?_ (fun hHeld => ?_)
    · first | exact ⟨z1, z2⟩ | exact ⟨keepY (keepY z1 hjk) hjk, keepY (keepY z2 hjk) hjk⟩
    clear hK K
    (try simp only [Act.put, List.setIfInBounds_toArray, List.set_cons_zero, List.set_cons_succ])
    refine wpAnyH_take (i := 4) (v := ?_) (by rw [List.getElem?_toArray]; rfl) (by kernel_rfl) (by kernel_rfl) (by kernel_rfl) (by intro _ _ _ h; exact h) (Or.inl ⟨by rfl, ?_⟩) (by assumption) ?_
    rotate_left
    · (intro w hSw; (try dsimp only at hSw); go_simp; all_goals with_reducible rfl)
    (try simp only [Act.put, List.setIfInBounds_toArray, List.set_cons_zero, List.set_cons_succ])
    refine wpAnyH_done (by kernel_rfl) ?_ _
    go_wp2_with fail
    exact bodyPost_ret (v := (.tuple #[.agg #[.int .i64 X, .int .i64 Y], .bool true])) (by simp (maxDischargeDepth := 6) [results, Tryd.results24, go_sem, *]) rfl ⟨rfl, below_set2 (Below.drew B) HK _ _⟩
set_option maxRecDepth 100000 in
set_option maxHeartbeats 8000000 in
theorem implBusyStill_any (n d f x c : Int) (w : World) (E : EM w) :
    Calls Tryd.prog 30 #[.agg #[.int .i64 n, .int .i64 d], .int .i64 f, .int .i64 x, .int .i64 c] w fun e w' => e = .returned (.bool (bsB n d f x c)) ∧ Below w.heap.size w w' := by
  have B := Below.nw w (.cells #[.int .i64 n, .int .i64 d] 27)
  have D := Bx2.new w (.int .i64 n) (.int .i64 d) 27
  have CM := fun w' E => outMost_any n d x w' E
  have C1 := fun w' => isTime_any f w'
  have C2 := fun w' => isTime_any c w'
  have nN := neNo
  have nY := neYes
  cases h1 : mzB n d x
  · rw [bs_mz h1]
    rw [h1] at CM
    clear h1 C1 C2
    generalize mzT n d x = T at *
    go_enter Tryd.func30, Tryd.ntmps30
    go_upto_region 1 with fail
    generalize w.alloc (.cells #[.int .i64 n, .int .i64 d] 27) = v at *
    obtain ⟨d0, d1, d2, d3, d4⟩ := id D
    go_wp2_with fail
    refine (CM _ (E.below B)).mono ?_
    rintro e v1 ⟨⟨u, rfl, a, rfl⟩, hb⟩
    clear d0 d1 d2 d3 d4
    replace B := B.trans (hb.mono B.size)
    go_wp2_with fail
    go_ret
    exact ⟨rfl, B⟩
  cases h2 : okT f
  · rw [bs_f h2]
    rw [h1] at CM
    rw [h2] at C1
    clear h1 h2 C2
    generalize mzT n d x = T at *
    go_enter Tryd.func30, Tryd.ntmps30
    go_upto_region 1 with fail
    generalize w.alloc (.cells #[.int .i64 n, .int .i64 d] 27) = v at *
    obtain ⟨d0, d1, d2, d3, d4⟩ := id D
    go_wp2_with fail
    refine (CM _ (E.below B)).mono ?_
    rintro e v1 ⟨⟨u, rfl, rfl⟩, hb⟩
    clear d0 d1 d2 d3 d4
    replace B := B.trans (hb.mono B.size)
    go_wp2_with fail
    refine (C1 _).mono ?_
    rintro e w' ⟨rfl, rfl⟩
    go_wp2_with fail
    go_ret
    exact ⟨rfl, B⟩
  cases h3 : okT c
  · rw [bs_c h3]
    rw [h1] at CM
    rw [h2] at C1
    rw [h3] at C2
    clear h1 h2 h3
    generalize mzT n d x = T at *
    go_enter Tryd.func30, Tryd.ntmps30
    go_upto_region 1 with fail
    generalize w.alloc (.cells #[.int .i64 n, .int .i64 d] 27) = v at *
    obtain ⟨d0, d1, d2, d3, d4⟩ := id D
    go_wp2_with fail
    refine (CM _ (E.below B)).mono ?_
    rintro e v1 ⟨⟨u, rfl, rfl⟩, hb⟩
    clear d0 d1 d2 d3 d4
    replace B := B.trans (hb.mono B.size)
    go_wp2_with fail
    refine (C1 _).mono ?_
    rintro e w' ⟨rfl, rfl⟩
    go_wp2_with fail
    refine (C2 _).mono ?_
    rintro e w' ⟨rfl, rfl⟩
    go_wp2_with fail
    go_ret
    exact ⟨rfl, B⟩
  by_cases h4 : c < f
  · rw [bs_lt h4]
    rw [h1] at CM
    rw [h2] at C1
    rw [h3] at C2
    clear h1 h2 h3
    generalize mzT n d x = T at *
    go_enter Tryd.func30, Tryd.ntmps30
    go_upto_region 1 with fail
    generalize w.alloc (.cells #[.int .i64 n, .int .i64 d] 27) = v at *
    obtain ⟨d0, d1, d2, d3, d4⟩ := id D
    go_wp2_with fail
    refine (CM _ (E.below B)).mono ?_
    rintro e v1 ⟨⟨u, rfl, rfl⟩, hb⟩
    clear d0 d1 d2 d3 d4
    replace B := B.trans (hb.mono B.size)
    go_wp2_with fail
    refine (C1 _).mono ?_
    rintro e w' ⟨rfl, rfl⟩
    go_wp2_with fail
    refine (C2 _).mono ?_
    rintro e w' ⟨rfl, rfl⟩
    go_wp2_with fail
    go_ret
    exact ⟨rfl, B⟩
  rw [bs_in h1 h2 h3 h4]
  have a2 := okT_t h2
  have a3 := okT_t h3
  have hw : IntKind.i64.wrap (c - f) = c - f := Go.IntWalk.i64_in _ ⟨by omega, by omega⟩
  have CL := fun w' => lei_any n d (c - f) w'
  rw [h1] at CM
  rw [h2] at C1
  rw [h3] at C2
  clear h1 h2 h3 a2 a3
  generalize mzT n d x = T at *
  generalize leT n d (c - f) = l at *
  generalize leB n d (c - f) = Q at *
  go_enter Tryd.func30, Tryd.ntmps30
  go_upto_region 1 with fail
  generalize w.alloc (.cells #[.int .i64 n, .int .i64 d] 27) = v at *
  obtain ⟨d0, d1, d2, d3, d4⟩ := id D
  go_wp2_with fail
  refine (CM _ (E.below B)).mono ?_
  rintro e v1 ⟨⟨u, rfl, rfl⟩, hb⟩
  clear d0 d1 d2 d3 d4
  replace D := D.below hb
  replace B := B.trans (hb.mono B.size)
  clear hb
  go_wp2_with fail
  refine (C1 _).mono ?_
  rintro e w' ⟨rfl, rfl⟩
  go_wp2_with fail
  refine (C2 _).mono ?_
  rintro e w' ⟨rfl, rfl⟩
  obtain ⟨d0, d1, d2, d3, d4⟩ := id D
  go_wp2_with fail
  refine (CL _).mono ?_
  rintro e v2 ⟨rfl, hb⟩
  clear d0 d1 d2 d3 d4
  replace B := B.trans (hb.mono B.size)
  go_wp2_with fail
  go_ret
  exact ⟨rfl, B⟩
end Go.Proofs.YtcakhfobkbgfoaaDoor
namespace Go.Proofs.YtcakhfobkbgfoaaDoor
open Go.RowKit
set_option linter.unusedVariables false
theorem mo_any (n d x : Int) (w : World) : Calls Tryd.prog 15 #[.agg #[.int .i64 n, .int .i64 d], .int .i64 x] w fun e w' => e = .returned (.tuple #[.int .i64 (moT n d x), .bool (moB n d x)]) ∧ Below w.heap.size w w' := specMostTime_any n d x w
theorem le_any (n d x : Int) (w : World) : Calls Tryd.prog 16 #[.agg #[.int .i64 n, .int .i64 d], .int .i64 x] w fun e w' => e = .returned (.tuple #[.int .i64 (leT n d x), .bool (leB n d x)]) ∧ Below w.heap.size w w' := specLeastTime_any n d x w
set_option maxHeartbeats 4000000 in
theorem specGateSpan_any (lo hi n d x : Int) (w : World) :
    Calls Tryd.prog 19 #[.agg #[.int .i64 lo, .int .i64 hi], .agg #[.int .i64 n, .int .i64 d], .int .i64 x] w fun e w' => e = .returned (.tuple #[.agg #[.int .i64 (gsL lo hi n d x), .int .i64 (gsH lo hi n d x)], .bool (gsB lo hi n d x)]) ∧ Below w.heap.size w w' := by
  have CM := fun w' => mo_any n d x w'
  cases h1 : moB n d x
  · obtain ⟨e1, e2, e3⟩ := gs_mo (lo := lo) (hi := hi) h1
    rw [e1, e2, e3]
    rw [h1] at CM
    clear e1 e2 e3 h1
    generalize moT n d x = m at *
    go_enter Tryd.func19, Tryd.ntmps19
    go_wp2_with (go_at_call 15; refine (CM _).mono ?_; rintro e w' ⟨rfl, hb⟩; obtain ⟨hc, hf⟩ := bcell hb; (first | have hB := Below.trans (Below.trans hB (by repeat (first | exact Below.refl _ _ | refine Below.drew ?_ | refine Below.alloc ?_ (by first | (simp; done) | (simp; omega) | omega) _ | refine Below.setCell ?_ (by first | (simp; done) | (simp; omega) | omega) _ | refine Below.trans ?_ (Below.mono (by assumption) (by first | (simp; done) | (simp; omega) | omega))))) (Below.mono hb (by first | (simp; done) | (simp; omega) | omega)) | have hB := hb); obtain ⟨hC, hF⟩ := bcell hB; have hz := hb.size; (try simp at hz); (try (have hz0 : w.heap.size < w'.heap.size := by omega)); (try (have hz1 : w.heap.size + 1 < w'.heap.size := by omega)); (try (have hz2 : w.heap.size + 1 + 1 < w'.heap.size := by omega)); (try (have hz3 : w.heap.size + 1 + 1 + 1 < w'.heap.size := by omega)))
    exact bodyPost_ret (v := .tuple #[.agg #[.int .i64 0, .int .i64 0], .bool false]) (by simp (maxDischargeDepth := 6) [results, Tryd.results19, go_sem, *]) rfl ⟨rfl, by repeat (first | exact Below.refl _ _ | refine Below.drew ?_ | refine Below.alloc ?_ (by first | (simp; done) | (simp; omega) | omega) _ | refine Below.setCell ?_ (by first | (simp; done) | (simp; omega) | omega) _ | refine Below.trans ?_ (Below.mono (by assumption) (by first | (simp; done) | (simp; omega) | omega)))⟩
  by_cases h2 : x < 1
  · obtain ⟨e1, e2, e3⟩ := gs_lt (lo := lo) (hi := hi) (n := n) (d := d) h2
    rw [e1, e2, e3]
    rw [h1] at CM
    clear e1 e2 e3 h1
    generalize moT n d x = m at *
    go_enter Tryd.func19, Tryd.ntmps19
    go_wp2_with (go_at_call 15; refine (CM _).mono ?_; rintro e w' ⟨rfl, hb⟩; obtain ⟨hc, hf⟩ := bcell hb; (first | have hB := Below.trans (Below.trans hB (by repeat (first | exact Below.refl _ _ | refine Below.drew ?_ | refine Below.alloc ?_ (by first | (simp; done) | (simp; omega) | omega) _ | refine Below.setCell ?_ (by first | (simp; done) | (simp; omega) | omega) _ | refine Below.trans ?_ (Below.mono (by assumption) (by first | (simp; done) | (simp; omega) | omega))))) (Below.mono hb (by first | (simp; done) | (simp; omega) | omega)) | have hB := hb); obtain ⟨hC, hF⟩ := bcell hB; have hz := hb.size; (try simp at hz); (try (have hz0 : w.heap.size < w'.heap.size := by omega)); (try (have hz1 : w.heap.size + 1 < w'.heap.size := by omega)); (try (have hz2 : w.heap.size + 1 + 1 < w'.heap.size := by omega)); (try (have hz3 : w.heap.size + 1 + 1 + 1 < w'.heap.size := by omega)))
    exact bodyPost_ret (v := .tuple #[.agg #[.int .i64 0, .int .i64 0], .bool false]) (by simp (maxDischargeDepth := 6) [results, Tryd.results19, go_sem, *]) rfl ⟨rfl, by repeat (first | exact Below.refl _ _ | refine Below.drew ?_ | refine Below.alloc ?_ (by first | (simp; done) | (simp; omega) | omega) _ | refine Below.setCell ?_ (by first | (simp; done) | (simp; omega) | omega) _ | refine Below.trans ?_ (Below.mono (by assumption) (by first | (simp; done) | (simp; omega) | omega)))⟩
  obtain ⟨e1, e2, e3⟩ := gs_sp (lo := lo) (hi := hi) h1 h2
  rw [e1, e2, e3]
  rw [h1] at CM
  clear e1 e2 e3 h1
  generalize moT n d x = m at *
  have CS := fun w' => specSpread_any lo hi 0 m w'
  generalize sel (spreadB lo hi 0 m) (lo - 0) = X at *
  generalize sel (spreadB lo hi 0 m) (hi + m) = Y at *
  generalize spreadB lo hi 0 m = Q at *
  go_enter Tryd.func19, Tryd.ntmps19
  go_wp2_with (first | (go_at_call 15; refine (CM _).mono ?_; rintro e w' ⟨rfl, hb⟩; obtain ⟨hc, hf⟩ := bcell hb; (first | have hB := Below.trans (Below.trans hB (by repeat (first | exact Below.refl _ _ | refine Below.drew ?_ | refine Below.alloc ?_ (by first | (simp; done) | (simp; omega) | omega) _ | refine Below.setCell ?_ (by first | (simp; done) | (simp; omega) | omega) _ | refine Below.trans ?_ (Below.mono (by assumption) (by first | (simp; done) | (simp; omega) | omega))))) (Below.mono hb (by first | (simp; done) | (simp; omega) | omega)) | have hB := hb); obtain ⟨hC, hF⟩ := bcell hB; have hz := hb.size; (try simp at hz); (try (have hz0 : w.heap.size < w'.heap.size := by omega)); (try (have hz1 : w.heap.size + 1 < w'.heap.size := by omega)); (try (have hz2 : w.heap.size + 1 + 1 < w'.heap.size := by omega)); (try (have hz3 : w.heap.size + 1 + 1 + 1 < w'.heap.size := by omega))) | (go_at_call 63; refine (CS _).mono ?_; rintro e w' ⟨rfl, hb⟩; obtain ⟨hc, hf⟩ := bcell hb; (first | have hB := Below.trans (Below.trans hB (by repeat (first | exact Below.refl _ _ | refine Below.drew ?_ | refine Below.alloc ?_ (by first | (simp; done) | (simp; omega) | omega) _ | refine Below.setCell ?_ (by first | (simp; done) | (simp; omega) | omega) _ | refine Below.trans ?_ (Below.mono (by assumption) (by first | (simp; done) | (simp; omega) | omega))))) (Below.mono hb (by first | (simp; done) | (simp; omega) | omega)) | have hB := hb); obtain ⟨hC, hF⟩ := bcell hB; have hz := hb.size; (try simp at hz); (try (have hz0 : w.heap.size < w'.heap.size := by omega)); (try (have hz1 : w.heap.size + 1 < w'.heap.size := by omega)); (try (have hz2 : w.heap.size + 1 + 1 < w'.heap.size := by omega)); (try (have hz3 : w.heap.size + 1 + 1 + 1 < w'.heap.size := by omega))))
  exact bodyPost_ret (v := .tuple #[.agg #[.int .i64 X, .int .i64 Y], .bool Q]) (by simp (maxDischargeDepth := 6) [results, Tryd.results19, go_sem, *]) rfl ⟨rfl, by repeat (first | exact Below.refl _ _ | refine Below.drew ?_ | refine Below.alloc ?_ (by first | (simp; done) | (simp; omega) | omega) _ | refine Below.setCell ?_ (by first | (simp; done) | (simp; omega) | omega) _ | refine Below.trans ?_ (Below.mono (by assumption) (by first | (simp; done) | (simp; omega) | omega)))⟩
theorem ln_any (x : Int) (w : World) : Calls Tryd.prog 51 #[.int .i64 x, .int .i64 1, .int .i64 1000000000000] w fun e w' => e = .returned (.bool (lgB x)) ∧ w = w' := l1In_any x 1 1000000000000 w
set_option maxRecDepth 100000 in
set_option maxHeartbeats 4000000 in
theorem specBusyStill_any (n d f x c : Int) (w : World) :
    Calls Tryd.prog 29 #[.agg #[.int .i64 n, .int .i64 d], .int .i64 f, .int .i64 x, .int .i64 c] w fun e w' => e = .returned (.bool (bsB n d f x c)) ∧ Below w.heap.size w w' := by
  have C1 := fun w' => l2Time_any f w'
  have C2 := fun w' => l2Time_any c w'
  have C3 := fun w' => ln_any x w'
  cases hG : bsG f x c
  · have e1 : bsB n d f x c = true := by unfold bsB; rw [hG]
    rw [e1]
    cases h1 : okT f
    · rw [h1] at C1
      clear e1 hG h1
      go_enter Tryd.func29, Tryd.ntmps29
      go_wp2_with (first | (go_at_call 59; refine (C1 _).mono ?_; rintro e w' ⟨rfl, rfl⟩) | (go_at_call 59; refine (C2 _).mono ?_; rintro e w' ⟨rfl, rfl⟩) | (go_at_call 51; refine (C3 _).mono ?_; rintro e w' ⟨rfl, rfl⟩))
      go_ret
      exact ⟨rfl, by repeat (first | exact Below.refl _ _ | refine Below.drew ?_ | refine Below.alloc ?_ (by first | (simp; done) | (simp; omega) | omega) _ | refine Below.setCell ?_ (by first | (simp; done) | (simp; omega) | omega) _ | refine Below.trans ?_ (Below.mono (by assumption) (by first | (simp; done) | (simp; omega) | omega)))⟩
    cases h2 : okT c
    · rw [h1] at C1
      rw [h2] at C2
      clear e1 hG h1 h2
      go_enter Tryd.func29, Tryd.ntmps29
      go_wp2_with (first | (go_at_call 59; refine (C1 _).mono ?_; rintro e w' ⟨rfl, rfl⟩) | (go_at_call 59; refine (C2 _).mono ?_; rintro e w' ⟨rfl, rfl⟩) | (go_at_call 51; refine (C3 _).mono ?_; rintro e w' ⟨rfl, rfl⟩))
      go_ret
      exact ⟨rfl, by repeat (first | exact Below.refl _ _ | refine Below.drew ?_ | refine Below.alloc ?_ (by first | (simp; done) | (simp; omega) | omega) _ | refine Below.setCell ?_ (by first | (simp; done) | (simp; omega) | omega) _ | refine Below.trans ?_ (Below.mono (by assumption) (by first | (simp; done) | (simp; omega) | omega)))⟩
    rw [h1] at C1
    rw [h2] at C2
    by_cases h3 : c < f
    · clear e1 hG h1 h2
      go_enter Tryd.func29, Tryd.ntmps29
      go_wp2_with (first | (go_at_call 59; refine (C1 _).mono ?_; rintro e w' ⟨rfl, rfl⟩) | (go_at_call 59; refine (C2 _).mono ?_; rintro e w' ⟨rfl, rfl⟩) | (go_at_call 51; refine (C3 _).mono ?_; rintro e w' ⟨rfl, rfl⟩))
      go_ret
      exact ⟨rfl, by repeat (first | exact Below.refl _ _ | refine Below.drew ?_ | refine Below.alloc ?_ (by first | (simp; done) | (simp; omega) | omega) _ | refine Below.setCell ?_ (by first | (simp; done) | (simp; omega) | omega) _ | refine Below.trans ?_ (Below.mono (by assumption) (by first | (simp; done) | (simp; omega) | omega)))⟩
    have h4 : lgB x = false := by
      unfold bsG at hG
      rw [h1, h2, decide_eq_false h3] at hG
      simpa using hG
    rw [h4] at C3
    clear e1 hG h1 h2 h4
    go_enter Tryd.func29, Tryd.ntmps29
    go_wp2_with (first | (go_at_call 59; refine (C1 _).mono ?_; rintro e w' ⟨rfl, rfl⟩) | (go_at_call 59; refine (C2 _).mono ?_; rintro e w' ⟨rfl, rfl⟩) | (go_at_call 51; refine (C3 _).mono ?_; rintro e w' ⟨rfl, rfl⟩))
    go_ret
    exact ⟨rfl, by repeat (first | exact Below.refl _ _ | refine Below.drew ?_ | refine Below.alloc ?_ (by first | (simp; done) | (simp; omega) | omega) _ | refine Below.setCell ?_ (by first | (simp; done) | (simp; omega) | omega) _ | refine Below.trans ?_ (Below.mono (by assumption) (by first | (simp; done) | (simp; omega) | omega)))⟩
  have e1 : bsB n d f x c = (!leB n d (c - f) || (!moB n d x || decide (leT n d (c - f) < moT n d x))) := by unfold bsB; rw [hG]
  rw [e1]
  unfold bsG at hG
  simp only [Bool.and_eq_true, Bool.not_eq_true', decide_eq_false_iff_not] at hG
  obtain ⟨h1, h2, h3, h4⟩ := hG
  have hw : IntKind.i64.wrap (c - f) = c - f := by
    have a := okT_t h1
    have b := okT_t h2
    exact Go.IntWalk.i64_in _ ⟨by omega, by omega⟩
  rw [h1] at C1
  rw [h2] at C2
  rw [h4] at C3
  have CL := fun w' => le_any n d (c - f) w'
  have CM := fun w' => mo_any n d x w'
  clear e1 h1 h2 h4
  generalize leT n d (c - f) = l at *
  generalize moT n d x = m at *
  generalize leB n d (c - f) = P at *
  generalize moB n d x = Q at *
  cases P
  · go_enter Tryd.func29, Tryd.ntmps29
    go_wp2_with (first | (go_at_call 59; refine (C1 _).mono ?_; rintro e w' ⟨rfl, rfl⟩) | (go_at_call 59; refine (C2 _).mono ?_; rintro e w' ⟨rfl, rfl⟩) | (go_at_call 51; refine (C3 _).mono ?_; rintro e w' ⟨rfl, rfl⟩) | (go_at_call 16; refine (CL _).mono ?_; rintro e w' ⟨rfl, hb⟩; obtain ⟨hc, hf⟩ := bcell hb; (first | have hB := Below.trans (Below.trans hB (by repeat (first | exact Below.refl _ _ | refine Below.drew ?_ | refine Below.alloc ?_ (by first | (simp; done) | (simp; omega) | omega) _ | refine Below.setCell ?_ (by first | (simp; done) | (simp; omega) | omega) _ | refine Below.trans ?_ (Below.mono (by assumption) (by first | (simp; done) | (simp; omega) | omega))))) (Below.mono hb (by first | (simp; done) | (simp; omega) | omega)) | have hB := hb); obtain ⟨hC, hF⟩ := bcell hB; have hz := hb.size; (try simp at hz); (try (have hz0 : w.heap.size < w'.heap.size := by omega)); (try (have hz1 : w.heap.size + 1 < w'.heap.size := by omega)); (try (have hz2 : w.heap.size + 1 + 1 < w'.heap.size := by omega)); (try (have hz3 : w.heap.size + 1 + 1 + 1 < w'.heap.size := by omega))) | (go_at_call 15; refine (CM _).mono ?_; rintro e w' ⟨rfl, hb⟩; obtain ⟨hc, hf⟩ := bcell hb; (first | have hB := Below.trans (Below.trans hB (by repeat (first | exact Below.refl _ _ | refine Below.drew ?_ | refine Below.alloc ?_ (by first | (simp; done) | (simp; omega) | omega) _ | refine Below.setCell ?_ (by first | (simp; done) | (simp; omega) | omega) _ | refine Below.trans ?_ (Below.mono (by assumption) (by first | (simp; done) | (simp; omega) | omega))))) (Below.mono hb (by first | (simp; done) | (simp; omega) | omega)) | have hB := hb); obtain ⟨hC, hF⟩ := bcell hB; have hz := hb.size; (try simp at hz); (try (have hz0 : w.heap.size < w'.heap.size := by omega)); (try (have hz1 : w.heap.size + 1 < w'.heap.size := by omega)); (try (have hz2 : w.heap.size + 1 + 1 < w'.heap.size := by omega)); (try (have hz3 : w.heap.size + 1 + 1 + 1 < w'.heap.size := by omega))))
    go_ret
    exact ⟨rfl, by repeat (first | exact Below.refl _ _ | refine Below.drew ?_ | refine Below.alloc ?_ (by first | (simp; done) | (simp; omega) | omega) _ | refine Below.setCell ?_ (by first | (simp; done) | (simp; omega) | omega) _ | refine Below.trans ?_ (Below.mono (by assumption) (by first | (simp; done) | (simp; omega) | omega)))⟩
  cases Q
  · go_enter Tryd.func29, Tryd.ntmps29
    go_wp2_with (first | (go_at_call 59; refine (C1 _).mono ?_; rintro e w' ⟨rfl, rfl⟩) | (go_at_call 59; refine (C2 _).mono ?_; rintro e w' ⟨rfl, rfl⟩) | (go_at_call 51; refine (C3 _).mono ?_; rintro e w' ⟨rfl, rfl⟩) | (go_at_call 16; refine (CL _).mono ?_; rintro e w' ⟨rfl, hb⟩; obtain ⟨hc, hf⟩ := bcell hb; (first | have hB := Below.trans (Below.trans hB (by repeat (first | exact Below.refl _ _ | refine Below.drew ?_ | refine Below.alloc ?_ (by first | (simp; done) | (simp; omega) | omega) _ | refine Below.setCell ?_ (by first | (simp; done) | (simp; omega) | omega) _ | refine Below.trans ?_ (Below.mono (by assumption) (by first | (simp; done) | (simp; omega) | omega))))) (Below.mono hb (by first | (simp; done) | (simp; omega) | omega)) | have hB := hb); obtain ⟨hC, hF⟩ := bcell hB; have hz := hb.size; (try simp at hz); (try (have hz0 : w.heap.size < w'.heap.size := by omega)); (try (have hz1 : w.heap.size + 1 < w'.heap.size := by omega)); (try (have hz2 : w.heap.size + 1 + 1 < w'.heap.size := by omega)); (try (have hz3 : w.heap.size + 1 + 1 + 1 < w'.heap.size := by omega))) | (go_at_call 15; refine (CM _).mono ?_; rintro e w' ⟨rfl, hb⟩; obtain ⟨hc, hf⟩ := bcell hb; (first | have hB := Below.trans (Below.trans hB (by repeat (first | exact Below.refl _ _ | refine Below.drew ?_ | refine Below.alloc ?_ (by first | (simp; done) | (simp; omega) | omega) _ | refine Below.setCell ?_ (by first | (simp; done) | (simp; omega) | omega) _ | refine Below.trans ?_ (Below.mono (by assumption) (by first | (simp; done) | (simp; omega) | omega))))) (Below.mono hb (by first | (simp; done) | (simp; omega) | omega)) | have hB := hb); obtain ⟨hC, hF⟩ := bcell hB; have hz := hb.size; (try simp at hz); (try (have hz0 : w.heap.size < w'.heap.size := by omega)); (try (have hz1 : w.heap.size + 1 < w'.heap.size := by omega)); (try (have hz2 : w.heap.size + 1 + 1 < w'.heap.size := by omega)); (try (have hz3 : w.heap.size + 1 + 1 + 1 < w'.heap.size := by omega))))
    go_ret
    exact ⟨rfl, by repeat (first | exact Below.refl _ _ | refine Below.drew ?_ | refine Below.alloc ?_ (by first | (simp; done) | (simp; omega) | omega) _ | refine Below.setCell ?_ (by first | (simp; done) | (simp; omega) | omega) _ | refine Below.trans ?_ (Below.mono (by assumption) (by first | (simp; done) | (simp; omega) | omega)))⟩
  go_enter Tryd.func29, Tryd.ntmps29
  go_wp2_with (first | (go_at_call 59; refine (C1 _).mono ?_; rintro e w' ⟨rfl, rfl⟩) | (go_at_call 59; refine (C2 _).mono ?_; rintro e w' ⟨rfl, rfl⟩) | (go_at_call 51; refine (C3 _).mono ?_; rintro e w' ⟨rfl, rfl⟩) | (go_at_call 16; refine (CL _).mono ?_; rintro e w' ⟨rfl, hb⟩; obtain ⟨hc, hf⟩ := bcell hb; (first | have hB := Below.trans (Below.trans hB (by repeat (first | exact Below.refl _ _ | refine Below.drew ?_ | refine Below.alloc ?_ (by first | (simp; done) | (simp; omega) | omega) _ | refine Below.setCell ?_ (by first | (simp; done) | (simp; omega) | omega) _ | refine Below.trans ?_ (Below.mono (by assumption) (by first | (simp; done) | (simp; omega) | omega))))) (Below.mono hb (by first | (simp; done) | (simp; omega) | omega)) | have hB := hb); obtain ⟨hC, hF⟩ := bcell hB; have hz := hb.size; (try simp at hz); (try (have hz0 : w.heap.size < w'.heap.size := by omega)); (try (have hz1 : w.heap.size + 1 < w'.heap.size := by omega)); (try (have hz2 : w.heap.size + 1 + 1 < w'.heap.size := by omega)); (try (have hz3 : w.heap.size + 1 + 1 + 1 < w'.heap.size := by omega))) | (go_at_call 15; refine (CM _).mono ?_; rintro e w' ⟨rfl, hb⟩; obtain ⟨hc, hf⟩ := bcell hb; (first | have hB := Below.trans (Below.trans hB (by repeat (first | exact Below.refl _ _ | refine Below.drew ?_ | refine Below.alloc ?_ (by first | (simp; done) | (simp; omega) | omega) _ | refine Below.setCell ?_ (by first | (simp; done) | (simp; omega) | omega) _ | refine Below.trans ?_ (Below.mono (by assumption) (by first | (simp; done) | (simp; omega) | omega))))) (Below.mono hb (by first | (simp; done) | (simp; omega) | omega)) | have hB := hb); obtain ⟨hC, hF⟩ := bcell hB; have hz := hb.size; (try simp at hz); (try (have hz0 : w.heap.size < w'.heap.size := by omega)); (try (have hz1 : w.heap.size + 1 < w'.heap.size := by omega)); (try (have hz2 : w.heap.size + 1 + 1 < w'.heap.size := by omega)); (try (have hz3 : w.heap.size + 1 + 1 + 1 < w'.heap.size := by omega))))
  go_ret
  exact ⟨rfl, by repeat (first | exact Below.refl _ _ | refine Below.drew ?_ | refine Below.alloc ?_ (by first | (simp; done) | (simp; omega) | omega) _ | refine Below.setCell ?_ (by first | (simp; done) | (simp; omega) | omega) _ | refine Below.trans ?_ (Below.mono (by assumption) (by first | (simp; done) | (simp; omega) | omega)))⟩
end Go.Proofs.YtcakhfobkbgfoaaDoor
namespace Go.Proofs.YtcakhfobkbgfoaaDoor
open Go.RowKit
set_option linter.unusedVariables false
set_option maxHeartbeats 2000000 in
theorem toSlot_any (x0 x1 : Int) (w : World) :
    Calls Tryd.prog 93 #[.agg #[.int .i64 x0, .int .i64 x1]] w fun e w' => e = .returned (.agg #[.int .i64 x0, .int .i64 x1]) ∧ Below w.heap.size w w' := by
  go_enter Tryd.func93, Tryd.ntmps93
  go_wp2_with fail
  exact bodyPost_ret (v := .agg #[.int .i64 x0, .int .i64 x1]) (by simp (maxDischargeDepth := 6) [results, Tryd.results93, go_sem, *]) rfl ⟨rfl, by repeat (first | exact Below.refl _ _ | refine Below.drew ?_ | refine Below.alloc ?_ (by first | (simp; done) | (simp; omega) | omega) _ | refine Below.setCell ?_ (by first | (simp; done) | (simp; omega) | omega) _ | refine Below.trans ?_ (Below.mono (by assumption) (by first | (simp; done) | (simp; omega) | omega)))⟩
set_option maxHeartbeats 2000000 in
theorem eqSlot_same (x0 x1 : Int) (w : World) :
    Calls Tryd.prog 94 #[.agg #[.int .i64 x0, .int .i64 x1], .agg #[.int .i64 x0, .int .i64 x1]] w fun e w' => e = .returned (.bool true) ∧ Below w.heap.size w w' := by
  go_enter Tryd.func94, Tryd.ntmps94
  go_wp2_with fail
  go_ret
  exact ⟨rfl, by repeat (first | exact Below.refl _ _ | refine Below.drew ?_ | refine Below.alloc ?_ (by first | (simp; done) | (simp; omega) | omega) _ | refine Below.setCell ?_ (by first | (simp; done) | (simp; omega) | omega) _ | refine Below.trans ?_ (Below.mono (by assumption) (by first | (simp; done) | (simp; omega) | omega)))⟩
def MCSlot (M : SlT) : Nat → Value
  | 0 => .int .i64 M.1
  | _ => .int .i64 M.2
def MFSlot (M : Nat → SlT) (c : Nat) : Value := MCSlot (M (c / 2)) (c % 2)
theorem MFSlot_at (M : Nat → SlT) (k j : Nat) (hj : j < 2) : MFSlot M (k * 2 + j) = MCSlot (M k) j := by
  have h1 : (k * 2 + j) / 2 = k := by omega
  have h2 : (k * 2 + j) % 2 = j := by omega
  rw [MFSlot, h1, h2]
theorem MFSlot_vals {M : Nat → SlT} {k : Nat} {x0 : Int} {x1 : Int} (hM : M k = (x0, x1)) : MFSlot M (k * 2) = .int .i64 x0 ∧ MFSlot M (k * 2 + 1) = .int .i64 x1 :=
  ⟨by have q := MFSlot_at M k 0 (by decide); rw [hM] at q; exact q, by have q := MFSlot_at M k 1 (by decide); rw [hM] at q; exact q⟩
theorem Cs.elSlot {w : World} {b off n k : Nat} {M : Nat → SlT} {x0 : Int} {x1 : Int} (h : Cs w b off (n * 2) (MFSlot M)) (hk : k < n) (hM : M k = (x0, x1)) : w.cell? ⟨b, off + k * 2, none⟩ = some (.int .i64 x0) ∧ w.cell? ⟨b, off + k * 2 + 1, none⟩ = some (.int .i64 x1) := by
  obtain ⟨q0, q1⟩ := MFSlot_vals hM
  exact ⟨by have := h.2 (k * 2) (by omega); rw [q0] at this; exact this, by have := h.2 (k * 2 + 1) (by omega); rw [q1] at this; exact this⟩
theorem tupSlot (M : Nat → SlT) (k : Nat) : ∃ (x0 : Int) (x1 : Int), M k = (x0, x1) := ⟨_, _, rfl⟩
set_option maxHeartbeats 1000000 in
theorem szSlotS_any (a : Option Addr) (n c : Nat) (L : Int) (w : World) (hm : n ≤ maxLen) (L0 : 0 ≤ L) (L1 : L ≤ 1048576) :
    Calls Tryd.prog 68 #[.slice a n c, .int .i64 L] w fun e w' => e = .returned (.int .i64 (if (n : Int) ≤ L then L - (n : Int) else -1)) ∧ w = w' := by
  unfold maxLen at hm
  by_cases h : (n : Int) ≤ L
  · rw [if_pos h]
    have hd : decide (L - (n : Int) < 0) = false := by simp; omega
    go_enter Tryd.func68, Tryd.ntmps68
    go_wp2_with fail
    go_ret
    exact ⟨rfl, rfl⟩
  · rw [if_neg h]
    have hd : decide (L - (n : Int) < 0) = true := by simp; omega
    go_enter Tryd.func68, Tryd.ntmps68
    go_wp2_with fail
    go_ret
    exact ⟨rfl, rfl⟩
def rowObjSlot (n : Nat) : Obj := .cells (madeCells #[.int .i64 0, .int .i64 0] (n * 2)) 42
theorem infoSlot : (Tryd.prog.info? 42).map (fun i => (i.zero, i.size, i.bytes)) = some (some (.agg #[.int .i64 0, .int .i64 0]), 2, 16) := by kernel_rfl
theorem mk_rowSlot (n : Nat) (h : n ≤ 1048576) (w : World) : (Instr.makeSlice 28 (.int .i64 (n : Int)) (.int .i64 (n : Int))).run Tryd.prog w = .ok (.slice (some ⟨w.heap.size, 0, none⟩) n n) (w.alloc (rowObjSlot n)) := by
  obtain ⟨i, hi, hz⟩ := Option.map_eq_some_iff.1 infoSlot
  simp only [Prod.mk.injEq] at hz
  obtain ⟨h1, h2, h3⟩ := hz
  have hr := run_make (P := Tryd.prog) w 28 42 i _ Tryd.underlying28 hi h1 .i64 .i64 n n (by omega) (Int.le_refl _) (by rw [h3]; omega) (by omega)
  simp only [Int.toNat_natCast, h2] at hr
  exact hr
theorem rowObjSlot_is (w : World) (n : Nat) (F : Nat → Value) : RowF (w.alloc (rowObjSlot n)) w.heap.size 42 (n * 2) 0 F := by
  have h := World.rowIs_alloc w (madeCells #[.int .i64 0, .int .i64 0] (n * 2)) 42 (fun i => (madeCells #[.int .i64 0, .int .i64 0] (n * 2)).getD i undef) (fun i hi => by
    rw [Array.getElem?_eq_getElem hi]; exact congrArg some (by rw [Array.getD_eq_getD_getElem?, Array.getElem?_eq_getElem hi]; rfl))
  rw [size_madeCells] at h
  exact ⟨_, h, fun j hj => absurd hj (Nat.not_lt_zero _)⟩
set_option maxHeartbeats 4000000 in
theorem toSlotS_some (b off n c : Nat) (M : Nat → SlT) (w : World) (hn : n ≤ 1048576) (hf : Cs w b off (n * 2) (MFSlot M)) :
    Calls Tryd.prog 69 #[.slice (some ⟨b, off, none⟩) n c] w fun e w' => e = .returned (.slice (some ⟨w.heap.size, 0, none⟩) n n) ∧ RowF w' w.heap.size 42 (n * 2) (n * 2) (MFSlot M) ∧ Below w.heap.size w w' := by
  have hmk := mk_rowSlot n hn
  go_enter Tryd.func69, Tryd.ntmps69
  go_wp2_with fail
  clear hmk
  go_loopw [4] (fun i wr => ∃ k : Nat, k ≤ n ∧ i = .int .i64 k ∧ RowF wr w.heap.size 42 (n * 2) (k * 2) (MFSlot M) ∧ Below w.heap.size w wr) (fun i _ => n - (intOf i).toNat)
  case atStart => exact ⟨0, Nat.zero_le _, rfl, (rowObjSlot_is w n _).eqm (by omega), (Below.refl _ _).alloc (Nat.le_refl _) _⟩
  case round =>
    obtain ⟨k, hk, rfl, hrow, hB⟩ := hrel
    by_cases hlt : k < n
    · obtain ⟨x0, x1, hM⟩ := tupSlot M k
      obtain ⟨c0, c1⟩ := (hf.below hB hf.1).elSlot hlt hM
      obtain ⟨q0, q1⟩ := MFSlot_vals hM
      have hli : (k : Int) < (n : Int) := by omega
      have hlr := hrow.lt
      clear hM
      go_wp2_with fail
      refine (toSlot_any x0 x1 _).mono ?_
      rintro e w' ⟨rfl, hb⟩
      have row := RowF.below hb hlr hrow
      have hB2 := hB.trans (hb.mono hB.size)
      clear c0 c1 hrow hB hb
      have hlr2 := row.lt
      obtain ⟨⟨v0, e0⟩, f0⟩ := row.facts (k * 2) (by omega)
      obtain ⟨⟨v1, e1⟩, f1⟩ := row.facts (k * 2 + 1) (by omega)
      go_wp2_with fail
      go_roundw
      case rel => exact ⟨k + 1, by omega, by go_num, ((row.put (k * 2 + 1) (by omega) q0).put ((k + 1) * 2) (by omega) q1), ((hB2.setCell (Nat.le_refl _) _).setCell (Nat.le_refl _) _)⟩
      case measure => simp [intOf]; omega
    · have hkn : k = n := by omega
      subst hkn
      have hli : ¬ (k : Int) < (k : Int) := by omega
      go_wp2_with fail
      go_ret
      exact ⟨rfl, hrow, hB⟩
set_option maxHeartbeats 1000000 in
theorem toSlotS_empty (a : Option Addr) (c : Nat) (F : Nat → Value) (w : World) :
    Calls Tryd.prog 69 #[.slice a 0 c] w fun e w' => e = .returned (.slice (some ⟨w.heap.size, 0, none⟩) 0 0) ∧ RowF w' w.heap.size 42 (0 * 2) (0 * 2) F ∧ Below w.heap.size w w' := by
  have hmk := mk_rowSlot 0 (by omega)
  simp only [Int.ofNat_zero] at hmk
  go_enter Tryd.func69, Tryd.ntmps69
  go_wp2_with fail
  clear hmk
  go_loopw [4] (fun i wr => i = .int .i64 0 ∧ RowF wr w.heap.size 42 (0 * 2) 0 F ∧ Below w.heap.size w wr) (fun i _ => 0)
  case atStart => exact ⟨rfl, rowObjSlot_is w 0 F, (Below.refl _ _).alloc (Nat.le_refl _) _⟩
  case round =>
    obtain ⟨rfl, hrow, hB⟩ := hrel
    go_wp2_with fail
    go_ret
    exact ⟨rfl, hrow.eqm (by omega), hB⟩
theorem toSlotS_any (a : Option Addr) (n c : Nat) (M : Nat → SlT) (w : World) (hn : n ≤ 1048576) (h : SrcC w a (n * 2) (MFSlot M)) :
    Calls Tryd.prog 69 #[.slice a n c] w fun e w' => e = .returned (.slice (some ⟨w.heap.size, 0, none⟩) n n) ∧ RowF w' w.heap.size 42 (n * 2) (n * 2) (MFSlot M) ∧ Below w.heap.size w w' := by
  rcases h with h0 | ⟨b, off, rfl, h2⟩
  · have hn0 : n = 0 := by omega
    subst hn0
    exact toSlotS_empty a c _ w
  · exact toSlotS_some b off n c M w hn h2
set_option maxHeartbeats 8000000 in
theorem eqSlotS_some (b off b' off' n c c' : Nat) (M : Nat → SlT) (w : World) (hn : n ≤ maxLen) (hf : Cs w b off (n * 2) (MFSlot M)) (hg : Cs w b' off' (n * 2) (MFSlot M)) :
    Calls Tryd.prog 70 #[.slice (some ⟨b, off, none⟩) n c, .slice (some ⟨b', off', none⟩) n c'] w fun e w' => e = .returned (.bool true) ∧ Below w.heap.size w w' := by
  unfold maxLen at hn
  go_enter Tryd.func70, Tryd.ntmps70
  go_wp2_with fail
  go_loopw [5] (fun i wr => ∃ k : Nat, k ≤ n ∧ i = .int .i64 k ∧ Below w.heap.size w wr) (fun i _ => n - (intOf i).toNat)
  case atStart => exact ⟨0, Nat.zero_le _, rfl, Below.refl _ _⟩
  case round =>
    obtain ⟨k, hk, rfl, hB⟩ := hrel
    by_cases hlt : k < n
    · obtain ⟨x0, x1, hM⟩ := tupSlot M k
      obtain ⟨c0, c1⟩ := (hf.below hB hf.1).elSlot hlt hM
      obtain ⟨d0, d1⟩ := (hg.below hB hg.1).elSlot hlt hM
      have hb1 : b < wr.drew.heap.size := Nat.lt_of_lt_of_le hf.1 hB.size
      have hb2 : b' < wr.drew.heap.size := Nat.lt_of_lt_of_le hg.1 hB.size
      have hsz : w.heap.size ≤ wr.drew.heap.size := hB.size
      have hli : (k : Int) < (n : Int) := by omega
      clear hM
      go_wp2_with fail
      refine wp_region_held_drew (S := (fun w' => w'.cell? ⟨b, off + k * 2, none⟩ = some (.int .i64 x0) ∧ w'.cell? ⟨b, off + k * 2 + 1, none⟩ = some (.int .i64 x1) ∧ w'.cell? ⟨b', off' + k * 2, none⟩ = some (.int .i64 x0) ∧ w'.cell? ⟨b', off' + k * 2 + 1, none⟩ = some (.int .i64 x1))) (by kernel_rfl) ?_ (fun hHeld => ?_)
      · first | exact ⟨c0, c1, d0, d1⟩ | (simp (maxDischargeDepth := 6) [go_sem, *]; done)
      refine wpAnyH_take (i := 0) (v := ?_) (by rw [List.getElem?_toArray]; rfl) (by kernel_rfl) (by kernel_rfl) (by kernel_rfl) (by intro _ _ _ h; exact h) (Or.inl ⟨by rfl, ?_⟩) (by assumption) ?_
      rotate_left
      · (intro w hSw; (try dsimp only at hSw); go_simp; all_goals with_reducible rfl)
      (try simp only [Act.put, List.setIfInBounds_toArray, List.set_cons_zero, List.set_cons_succ])
      refine wpAnyH_take (i := 1) (v := ?_) (by rw [List.getElem?_toArray]; rfl) (by kernel_rfl) (by kernel_rfl) (by kernel_rfl) (by intro _ _ _ h; exact h) (Or.inl ⟨by rfl, ?_⟩) (by assumption) ?_
      rotate_left
      · (intro w hSw; (try dsimp only at hSw); go_simp; all_goals with_reducible rfl)
      (try simp only [Act.put, List.setIfInBounds_toArray, List.set_cons_zero, List.set_cons_succ])
      refine wpAnyH_take (i := 2) (v := ?_) (by rw [List.getElem?_toArray]; rfl) (by kernel_rfl) (by kernel_rfl) (by kernel_rfl) (by intro _ _ _ h; exact h) (Or.inl ⟨by rfl, ?_⟩) (by assumption) ?_
      rotate_left
      · (intro w hSw; (try dsimp only at hSw); go_simp; all_goals with_reducible rfl)
      (try simp only [Act.put, List.setIfInBounds_toArray, List.set_cons_zero, List.set_cons_succ])
      refine wpAnyH_take (i := 3) (v := ?_) (by rw [List.getElem?_toArray]; rfl) (by kernel_rfl) (by kernel_rfl) (by kernel_rfl) (by intro _ _ _ h; exact h) (Or.inl ⟨by rfl, ?_⟩) (by assumption) ?_
      rotate_left
      · (intro w hSw; (try dsimp only at hSw); go_simp; all_goals with_reducible rfl)
      (try simp only [Act.put, List.setIfInBounds_toArray, List.set_cons_zero, List.set_cons_succ])
      refine wpAnyH_take (i := 4) (v := ?_) (by rw [List.getElem?_toArray]; rfl) (by kernel_rfl) (by kernel_rfl) (by kernel_rfl) (by intro _ _ _ h; exact h) (Or.inl ⟨by rfl, ?_⟩) (by assumption) ?_
      rotate_left
      · (intro w hSw; (try dsimp only at hSw); go_simp; all_goals with_reducible rfl)
      (try simp only [Act.put, List.setIfInBounds_toArray, List.set_cons_zero, List.set_cons_succ])
      refine wpAnyH_take (i := 5) (v := ?_) (by rw [List.getElem?_toArray]; rfl) (by kernel_rfl) (by kernel_rfl) (by kernel_rfl) (by intro _ _ _ h; exact h) (Or.inl ⟨by rfl, ?_⟩) (by assumption) ?_
      rotate_left
      · (intro w hSw; (try dsimp only at hSw); go_simp; all_goals with_reducible rfl)
      (try simp only [Act.put, List.setIfInBounds_toArray, List.set_cons_zero, List.set_cons_succ])
      refine wpAnyH_take (i := 6) (v := ?_) (by rw [List.getElem?_toArray]; rfl) (by kernel_rfl) (by kernel_rfl) (by kernel_rfl) (by intro _ _ _ h; exact h) (Or.inl ⟨by rfl, ?_⟩) (by assumption) ?_
      rotate_left
      · (intro w hSw; (try dsimp only at hSw); go_simp; all_goals with_reducible rfl)
      (try simp only [Act.put, List.setIfInBounds_toArray, List.set_cons_zero, List.set_cons_succ])
      refine wpAnyH_take (i := 7) (v := ?_) (by rw [List.getElem?_toArray]; rfl) (by kernel_rfl) (by kernel_rfl) (by kernel_rfl) (by intro _ _ _ h; exact h) (Or.inl ⟨by rfl, ?_⟩) (by assumption) ?_
      rotate_left
      · (intro w hSw; (try dsimp only at hSw); go_simp; all_goals with_reducible rfl)
      (try simp only [Act.put, List.setIfInBounds_toArray, List.set_cons_zero, List.set_cons_succ])
      refine wpAnyH_ready (rs := [8]) (by kernel_rfl) (by simp) ?_
      refine AllReadyH.cons (by rw [List.getElem?_toArray]; rfl) (fun K hK => ?_) AllReadyH.nil
      go_simp
      refine (eqSlot_same _ _ _).mono ?_; rintro e w' ⟨rfl, hb⟩; (replace c0 := (hb.cell (p := ⟨b, off + k * 2, none⟩) hb1).trans c0); (replace c1 := (hb.cell (p := ⟨b, off + k * 2 + 1, none⟩) hb1).trans c1); (replace d0 := (hb.cell (p := ⟨b', off' + k * 2, none⟩) hb2).trans d0); (replace d1 := (hb.cell (p := ⟨b', off' + k * 2 + 1, none⟩) hb2).trans d1)
      (try go_wp2_with fail)
      refine hK.out _ _ ?_ (fun hHeld => ?_)
      · first | exact ⟨c0, c1, d0, d1⟩ | (simp (maxDischargeDepth := 6) [go_sem, *]; done)
      clear hK K
      (try simp only [Act.put, List.setIfInBounds_toArray, List.set_cons_zero, List.set_cons_succ])
      refine wpAnyH_take (i := 9) (v := ?_) (by rw [List.getElem?_toArray]; rfl) (by kernel_rfl) (by kernel_rfl) (by kernel_rfl) (by intro _ _ _ h; exact h) (Or.inl ⟨by rfl, ?_⟩) (by assumption) ?_
      rotate_left
      · (intro w hSw; (try dsimp only at hSw); go_simp; all_goals with_reducible rfl)
      (try simp only [Act.put, List.setIfInBounds_toArray, List.set_cons_zero, List.set_cons_succ])
      refine wpAnyH_done (by kernel_rfl) ?_ _
      go_wp2_with fail
      go_roundw
      case rel => exact ⟨k + 1, by omega, by go_num, (Below.drew hB).trans (hb.mono hsz)⟩
      case measure => simp [intOf]; omega
    · go_wp2_with fail
      go_ret
      exact ⟨rfl, hB⟩
set_option maxHeartbeats 400000 in
theorem eqSlotS_zero (a a' : Option Addr) (c c' : Nat) (w : World) :
    Calls Tryd.prog 70 #[.slice a 0 c, .slice a' 0 c'] w fun e w' => e = .returned (.bool true) ∧ Below w.heap.size w w' := by
  go_enter Tryd.func70, Tryd.ntmps70
  go_wp2_with fail
  go_loopw [5] (fun i wr => i = .int .i64 0 ∧ w = wr) (fun i _ => 0)
  case atStart => exact ⟨rfl, rfl⟩
  case round =>
    obtain ⟨rfl, rfl⟩ := hrel
    go_wp2_with fail
    go_ret
    exact ⟨rfl, Below.refl _ _⟩
theorem eqSlotS_src (a a' : Option Addr) (n c c' : Nat) (M : Nat → SlT) (w : World) (hn : n ≤ maxLen) (h : SrcC w a (n * 2) (MFSlot M)) (h' : SrcC w a' (n * 2) (MFSlot M)) :
    Calls Tryd.prog 70 #[.slice a n c, .slice a' n c'] w fun e w' => e = .returned (.bool true) ∧ Below w.heap.size w w' := by
  by_cases h0 : n = 0
  · subst h0; exact eqSlotS_zero a a' c c' w
  · rcases h with h | ⟨b, off, rfl, hp⟩
    · omega
    · rcases h' with h | ⟨b', off', rfl, hp'⟩
      · omega
      · exact eqSlotS_some b off b' off' n c c' M w hn hp hp'
def mkSlot (q : Int) (c : Nat) : Value := .int .i64 (q + (c : Int))
theorem mkSlot_i {q : Int} {k j : Nat} {x : Int} (h : x = q + ((k * 2 + j : Nat) : Int)) : mkSlot q (k * 2 + j) = .int .i64 x := by rw [mkSlot, h]
end Go.Proofs.YtcakhfobkbgfoaaDoor
namespace Go.Proofs.YtcakhfobkbgfoaaDoor
open Go.RowKit
set_option linter.unusedVariables false
/- The specification's PlanOk. -/
set_option maxRecDepth 100000 in
set_option maxHeartbeats 8000000 in
theorem specPlanOk_any (s g : Int) (a : Option Addr) (n c : Nat) (M : Nat → SlT) (w : World) (hm : n ≤ maxLen) (hs : SrcC w a (n * 2) (MFSlot M)) :
    Calls Tryd.prog 52 #[.agg #[.int .i64 s, .int .i64 g, .slice a n c]] w fun e w' => e = .returned (.bool (plB s g M n)) ∧ Below w.heap.size w w' := by
  unfold maxLen at hm
  have B := Below.nw w (.cells #[.int .i64 s, .int .i64 g, .slice a n c] 30)
  have N := Tx3.new w (.int .i64 s) (.int .i64 g) (.slice a n c) 30
  have C1 := fun w' => l2Time_any s w'
  have C2 : ∀ w', Calls Tryd.prog 51 #[.int .i64 g, .int .i64 0, .int .i64 100000] w' fun e w'' => e = .returned (.bool (gpB g)) ∧ w' = w'' := fun w' => l1In_any g 0 100000 w'
  have C3 : ∀ w', Calls Tryd.prog 51 #[.int .i64 (n : Int), .int .i64 1, .int .i64 12] w' fun e w'' => e = .returned (.bool (cnB n)) ∧ w' = w'' := fun w' => l1In_any n 1 12 w'
  cases h1 : okT s
  · have e0 : plB s g M n = false := by unfold plB; rw [h1]; rfl
    rw [e0]
    clear e0 hs
    go_enter Tryd.func52, Tryd.ntmps52; go_upto_region 1 with fail; generalize w.alloc (.cells #[.int .i64 s, .int .i64 g, .slice a n c] 30) = v at *
    obtain ⟨n0, n1, n2, n3, n4, n5, n6⟩ := id N; go_wp2_with fail; refine (C1 _).mono ?_; rintro e w' ⟨rfl, rfl⟩; rw [h1]
    go_wp2_with fail
    go_ret
    exact ⟨rfl, B⟩
  cases h2 : gpB g
  · have e0 : plB s g M n = false := by unfold plB; rw [h1, h2]; rfl
    rw [e0]
    clear e0 hs
    go_enter Tryd.func52, Tryd.ntmps52; go_upto_region 1 with fail; generalize w.alloc (.cells #[.int .i64 s, .int .i64 g, .slice a n c] 30) = v at *
    obtain ⟨n0, n1, n2, n3, n4, n5, n6⟩ := id N; go_wp2_with fail; refine (C1 _).mono ?_; rintro e w' ⟨rfl, rfl⟩; rw [h1]
    go_wp2_with fail; refine (C2 _).mono ?_; rintro e w' ⟨rfl, rfl⟩; rw [h2]
    go_wp2_with fail
    go_ret
    exact ⟨rfl, B⟩
  cases h3 : cnB n
  · have e0 : plB s g M n = false := by unfold plB; rw [h1, h2, h3]; rfl
    rw [e0]
    clear e0 hs
    go_enter Tryd.func52, Tryd.ntmps52; go_upto_region 1 with fail; generalize w.alloc (.cells #[.int .i64 s, .int .i64 g, .slice a n c] 30) = v at *
    obtain ⟨n0, n1, n2, n3, n4, n5, n6⟩ := id N; go_wp2_with fail; refine (C1 _).mono ?_; rintro e w' ⟨rfl, rfl⟩; rw [h1]
    go_wp2_with fail; refine (C2 _).mono ?_; rintro e w' ⟨rfl, rfl⟩; rw [h2]
    go_wp2_with fail; refine (C3 _).mono ?_; rintro e w' ⟨rfl, rfl⟩; rw [h3]
    go_wp2_with fail
    go_ret
    exact ⟨rfl, B⟩
  have e0 : plB s g M n = slA M n := by unfold plB; rw [h1, h2, h3]; rfl
  rw [e0]
  clear e0
  have hn : 1 ≤ (n : Int) ∧ (n : Int) ≤ 12 := of_decide_eq_true h3
  obtain ⟨b, off, rfl, hf⟩ : ∃ b off, a = some ⟨b, off, none⟩ ∧ Cs w b off (n * 2) (MFSlot M) := by
    rcases hs with q | q
    · exact absurd q (by omega)
    · exact q
  have HF : Hid (Cs w b off (n * 2) (MFSlot M)) := hf
  clear hf hs
  go_enter Tryd.func52, Tryd.ntmps52; go_upto_region 1 with fail; generalize w.alloc (.cells #[.int .i64 s, .int .i64 g, .slice (some ⟨b, off, none⟩) n c] 30) = v at *
  obtain ⟨n0, n1, n2, n3, n4, n5, n6⟩ := id N; go_wp2_with fail; refine (C1 _).mono ?_; rintro e w' ⟨rfl, rfl⟩; rw [h1]
  go_wp2_with fail; refine (C2 _).mono ?_; rintro e w' ⟨rfl, rfl⟩; rw [h2]
  go_wp2_with fail; refine (C3 _).mono ?_; rintro e w' ⟨rfl, rfl⟩; rw [h3]
  clear C1 C2 C3 h1 h2 h3
  clear n0 n1 n2 n3 n4 n5 n6
  go_wp2_with fail
  go_loopw [3] (fun i wr => ∃ (k : Nat), k ≤ n ∧ i = .int .i64 k ∧ slA M k = true ∧ Tx3 wr w.heap.size (.int .i64 s) (.int .i64 g) (.slice (some ⟨b, off, none⟩) n c) ∧ Below w.heap.size w wr) (fun i _ => n - (intOf i).toNat)
  case atStart => exact ⟨0, Nat.zero_le _, rfl, rfl, N, B⟩
  case round =>
    clear N B
    obtain ⟨k, hk, rfl, hA, N, B⟩ := hrel
    by_cases hlt : k < n
    · obtain ⟨o, l, hM⟩ := tupSlot M k
      obtain ⟨c1, c2⟩ := (HF.out.below B HF.out.1).elSlot hlt hM
      have HA : Hid (slA M (k + 1) = (nodB o && lnB l)) := by rw [Hid, slA, hA, hM]; rfl
      have HLT : Hid (k < n) := hlt
      have hli : (k : Int) < (n : Int) := by omega
      have C1 := fun w' => l4Node_any o w'
      have C2 : ∀ w', Calls Tryd.prog 51 #[.int .i64 l, .int .i64 1, .int .i64 1000000] w' fun e w'' => e = .returned (.bool (lnB l)) ∧ w' = w'' := fun w' => l1In_any l 1 1000000 w'
      clear hM hA HF
      cases h1 : nodB o
      · have HN : Hid (slA M (k + 1) = false) := by rw [Hid, HA.out, h1]; rfl
        clear HA
        obtain ⟨n0, n1, n2, n3, n4, n5, n6⟩ := id N; go_wp2_with fail; refine (C1 _).mono ?_; rintro e w' ⟨rfl, rfl⟩; rw [h1]
        go_wp2_with fail
        go_ret
        exact ⟨ret_bool (slA_no HN.out HLT.out).symm, B⟩
      cases h2 : lnB l
      · have HN : Hid (slA M (k + 1) = false) := by rw [Hid, HA.out, h1, h2]; rfl
        clear HA
        obtain ⟨n0, n1, n2, n3, n4, n5, n6⟩ := id N; go_wp2_with fail; refine (C1 _).mono ?_; rintro e w' ⟨rfl, rfl⟩; rw [h1]
        go_wp2_with fail; refine (C2 _).mono ?_; rintro e w' ⟨rfl, rfl⟩; rw [h2]
        go_wp2_with fail
        go_ret
        exact ⟨ret_bool (slA_no HN.out HLT.out).symm, B⟩
      have HT : Hid (slA M (k + 1) = true) := by rw [Hid, HA.out, h1, h2]; rfl
      clear HA
      obtain ⟨n0, n1, n2, n3, n4, n5, n6⟩ := id N; go_wp2_with fail; refine (C1 _).mono ?_; rintro e w' ⟨rfl, rfl⟩; rw [h1]
      go_wp2_with fail; refine (C2 _).mono ?_; rintro e w' ⟨rfl, rfl⟩; rw [h2]
      go_wp2_with fail
      go_roundw
      case rel => exact ⟨k + 1, HLT.out, by go_num, HT.out, N, B⟩
      case measure => have hlt' := HLT.out; simp [intOf]; omega
    · have hkn : k = n := by omega
      subst hkn
      have hli : ¬ (k : Int) < (k : Int) := by omega
      obtain ⟨n0, n1, n2, n3, n4, n5, n6⟩ := id N
      go_wp2_with fail
      go_ret
      exact ⟨by first | rfl | exact ret_bool hA.symm, B⟩
end Go.Proofs.YtcakhfobkbgfoaaDoor
namespace Go.Proofs.YtcakhfobkbgfoaaDoor
open Go.RowKit
set_option linter.unusedVariables false
theorem below_drewN13 {B : Nat} {w w' : World} (h : Below B w w') (nq : Nat) : Below B w (w'.drewN nq) := ⟨h.os, h.tape, h.output, h.size, h.block⟩
/- How long the first slots are, in the specification. -/
set_option maxRecDepth 100000 in
set_option maxHeartbeats 8000000 in
theorem specUpto_any (s g : Int) (a : Option Addr) (n c : Nat) (M : Nat → SlT) (k : Nat) (w : World) (hp : plB s g M n = true) (hk : k ≤ n) (hs : SrcC w a (n * 2) (MFSlot M)) :
    Calls Tryd.prog 64 #[.agg #[.int .i64 s, .int .i64 g, .slice a n c], .int .i64 (k : Int)] w fun e w' => e = .returned (.int .i64 (upS g M k)) ∧ Below w.heap.size w w' := by
  obtain ⟨p1, p2, p3, p4⟩ := plB_t hp
  have B := Below.nw w (.cells #[.int .i64 s, .int .i64 g, .slice a n c] 30)
  have N := Tx3.new w (.int .i64 s) (.int .i64 g) (.slice a n c) 30
  obtain ⟨b, off, rfl, hf⟩ : ∃ b off, a = some ⟨b, off, none⟩ ∧ Cs w b off (n * 2) (MFSlot M) := by
    rcases hs with q | q
    · exact absurd q (by omega)
    · exact q
  have HF : Hid (Cs w b off (n * 2) (MFSlot M)) := hf
  have HP2 : Hid (0 ≤ g ∧ g ≤ 100000) := p2
  have HP4 : Hid (slA M n = true) := p4
  clear hf hs hp p1 p2 p4
  go_enter Tryd.func64, Tryd.ntmps64
  go_upto_region 1 with fail
  generalize w.alloc (.cells #[.int .i64 s, .int .i64 g, .slice (some ⟨b, off, none⟩) n c] 30) = v at *
  go_wp2_with fail
  go_loopw [5, 6] (fun s5 i wr => ∃ (j : Nat), j ≤ k ∧ i = .int .i64 j ∧ s5 = .int .i64 (upS g M j) ∧ Tx3 wr w.heap.size (.int .i64 s) (.int .i64 g) (.slice (some ⟨b, off, none⟩) n c) ∧ Below w.heap.size w wr) (fun _ i _ => k - (intOf i).toNat)
  case atStart => exact ⟨0, Nat.zero_le _, rfl, rfl, N, B⟩
  case round =>
    clear N B
    obtain ⟨j, hj, rfl, rfl, N, B⟩ := hrel
    by_cases hlt : j < k
    · have hjn : j < n := by omega
      obtain ⟨o, l, hM⟩ := tupSlot M j
      obtain ⟨c1, c2⟩ := (HF.out.below B HF.out.1).elSlot hjn hM
      have hb := upS_bd HP2.out HP4.out j (by omega)
      have hl := (slB_t (slA_at HP4.out hjn)).2
      have hg := HP2.out
      rw [hM] at hl
      have HU : Hid (upS g M (j + 1) = upS g M j + l + g) := by rw [Hid, upS, hM]
      have HLT : Hid (j < k) := hlt
      have HJ : Hid (j < n) := hjn
      have hli : (j : Int) < (k : Int) := by omega
      have hli2 : (j : Int) < (n : Int) := by omega
      have hw1 : IntKind.i64.wrap (upS g M j + l) = upS g M j + l := Go.IntWalk.i64_in _ ⟨by omega, by omega⟩
      have hw2 : IntKind.i64.wrap (upS g M j + l + g) = upS g M j + l + g := Go.IntWalk.i64_in _ ⟨by omega, by omega⟩
      clear hM hb hl hg
      generalize upS g M j = u at *
      obtain ⟨n0, n1, n2, n3, n4, n5, n6⟩ := id N
      go_wp2_with fail
      go_quiet (fail)
      clear n0 n1 n2 n3 n4 n5 n6
      go_wp2_with fail
      go_roundw
      case rel => exact ⟨j + 1, HLT.out, by go_num, by rw [HU.out], N, below_drewN13 B nq⟩
      case measure => have hlt' := HLT.out; simp [intOf]; omega
    · have hkn : j = k := by omega
      subst hkn
      have hli : ¬ (j : Int) < (j : Int) := by omega
      go_wp2_with fail
      go_ret
      exact ⟨rfl, B⟩
set_option maxHeartbeats 4000000 in
theorem specRoundOf_any (s g : Int) (a : Option Addr) (n c : Nat) (M : Nat → SlT) (w : World) (hm : n ≤ maxLen) (hs : SrcC w a (n * 2) (MFSlot M)) :
    Calls Tryd.prog 20 #[.agg #[.int .i64 s, .int .i64 g, .slice a n c]] w fun e w' => e = .returned (.int .i64 (rnI s g M n)) ∧ Below w.heap.size w w' := by
  have B := Below.nw w (.cells #[.int .i64 s, .int .i64 g, .slice a n c] 30)
  have N := Tx3.new w (.int .i64 s) (.int .i64 g) (.slice a n c) 30
  have HS : Hid (SrcC w a (n * 2) (MFSlot M)) := hs
  clear hs
  have C1 := fun w' h => specPlanOk_any s g a n c M w' hm h
  cases h1 : plB s g M n
  · rw [rnI_f h1]
    rw [h1] at C1
    go_enter Tryd.func20, Tryd.ntmps20
    go_upto_region 1 with fail
    generalize w.alloc (.cells #[.int .i64 s, .int .i64 g, .slice a n c] 30) = v at *
    obtain ⟨n0, n1, n2, n3, n4, n5, n6⟩ := id N
    go_wp2_with fail
    refine (C1 _ (HS.out.below B)).mono ?_
    rintro e v1 ⟨rfl, hb⟩
    clear n0 n1 n2 n3 n4 n5 n6
    replace B := B.trans (hb.mono B.size)
    clear hb
    go_wp2_with fail
    go_ret
    exact ⟨rfl, B⟩
  · rw [rnI_t h1]
    have C2 := fun w' h => specUpto_any s g a n c M n w' h1 (Nat.le_refl _) h
    rw [h1] at C1
    generalize upS g M n = u at *
    go_enter Tryd.func20, Tryd.ntmps20
    go_upto_region 1 with fail
    generalize w.alloc (.cells #[.int .i64 s, .int .i64 g, .slice a n c] 30) = v at *
    obtain ⟨n0, n1, n2, n3, n4, n5, n6⟩ := id N
    go_wp2_with fail
    refine (C1 _ (HS.out.below B)).mono ?_
    rintro e v1 ⟨rfl, hb⟩
    clear n0 n1 n2 n3 n4 n5 n6
    replace B := B.trans (hb.mono B.size)
    replace N := N.below hb
    clear hb
    obtain ⟨n0, n1, n2, n3, n4, n5, n6⟩ := id N
    go_wp2_with fail
    refine (C2 _ (HS.out.below B)).mono ?_
    rintro e v2 ⟨rfl, hb⟩
    clear n0 n1 n2 n3 n4 n5 n6
    replace B := B.trans (hb.mono B.size)
    clear hb
    go_wp2_with fail
    go_ret
    exact ⟨rfl, B⟩
set_option maxHeartbeats 4000000 in
theorem l13Slot_any (s g : Int) (a : Option Addr) (n c : Nat) (M : Nat → SlT) (i : Int) (w : World) (hm : n ≤ maxLen) (hs : SrcC w a (n * 2) (MFSlot M)) :
    Calls Tryd.prog 65 #[.agg #[.int .i64 s, .int .i64 g, .slice a n c], .int .i64 i] w fun e w' => e = .returned (.bool (sfB s g M n i)) ∧ Below w.heap.size w w' := by
  have B := Below.nw w (.cells #[.int .i64 s, .int .i64 g, .slice a n c] 30)
  have N := Tx3.new w (.int .i64 s) (.int .i64 g) (.slice a n c) 30
  have HS : Hid (SrcC w a (n * 2) (MFSlot M)) := hs
  clear hs
  have C1 := fun w' h => specPlanOk_any s g a n c M w' hm h
  unfold maxLen at hm
  have hw : IntKind.i64.wrap ((n : Int) - 1) = (n : Int) - 1 := Go.IntWalk.i64_in _ ⟨by omega, by omega⟩
  have C2 : ∀ w', Calls Tryd.prog 51 #[.int .i64 i, .int .i64 0, .int .i64 ((n : Int) - 1)] w' fun e w'' => e = .returned (.bool (ixB n i)) ∧ w' = w'' := fun w' => l1In_any i 0 ((n : Int) - 1) w'
  unfold sfB
  generalize ixB n i = q at *
  generalize plB s g M n = p at *
  cases p
  · go_enter Tryd.func65, Tryd.ntmps65
    go_upto_region 1 with fail
    generalize w.alloc (.cells #[.int .i64 s, .int .i64 g, .slice a n c] 30) = v at *
    obtain ⟨n0, n1, n2, n3, n4, n5, n6⟩ := id N
    go_wp2_with fail
    refine (C1 _ (HS.out.below B)).mono ?_
    rintro e v1 ⟨rfl, hb⟩
    clear n0 n1 n2 n3 n4 n5 n6
    replace B := B.trans (hb.mono B.size)
    clear hb
    go_wp2_with fail
    go_ret
    exact ⟨rfl, B⟩
  · go_enter Tryd.func65, Tryd.ntmps65
    go_upto_region 1 with fail
    generalize w.alloc (.cells #[.int .i64 s, .int .i64 g, .slice a n c] 30) = v at *
    obtain ⟨n0, n1, n2, n3, n4, n5, n6⟩ := id N
    go_wp2_with fail
    refine (C1 _ (HS.out.below B)).mono ?_
    rintro e v1 ⟨rfl, hb⟩
    clear n0 n1 n2 n3 n4 n5 n6
    replace B := B.trans (hb.mono B.size)
    replace N := N.below hb
    clear hb
    obtain ⟨n0, n1, n2, n3, n4, n5, n6⟩ := id N
    go_wp2_with fail
    refine (C2 _).mono ?_
    rintro e w' ⟨rfl, rfl⟩
    go_wp2_with fail
    go_ret
    exact ⟨rfl, B⟩
end Go.Proofs.YtcakhfobkbgfoaaDoor
