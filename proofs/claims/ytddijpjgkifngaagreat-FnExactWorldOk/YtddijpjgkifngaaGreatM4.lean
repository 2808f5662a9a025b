/- Contracts of Fold and Unfold, and the walks of their exact laws. Contracts of MsgOk. What the laws keep; rows of numbers, of intervals and of peers, told by lists. Plans: numbers. Who was heard: numbers. Frames: numbers; what the laws make of one. -/
import Derived.Deep.DeepCutAuto
import Derived.Deep.DeepAppendRoom
import Derived.Test.YtddijpjgkifngaaGreatM3
namespace Go.Proofs.YtddijpjgkifngaaGreat
open Go.RowKit
set_option linter.unusedVariables false
set_option maxHeartbeats 400000 in
theorem l1In_any (x l h : Int) (w : World) :
 Calls Tryz.prog 42 #[.int .i64 x, .int .i64 l, .int .i64 h] w fun e w' => e = .returned (.bool (decide (l ≤ x ∧ x ≤ h))) ∧ w = w' := by
 go_enter Tryz.func42, Tryz.ntmps42
 go_wp2
 all_goals go_ret
 all_goals exact ⟨ret_bool (by rw [Bool.eq_iff_iff]; simp; try omega), rfl⟩
end Go.Proofs.YtddijpjgkifngaaGreat
namespace Go.Proofs.YtddijpjgkifngaaGreat
open Go.RowKit
set_option linter.unusedVariables false
def nodB (n : Int) : Bool := decide (0 ≤ n ∧ n ≤ 7)
set_option maxHeartbeats 400000 in
theorem isNode_any (n : Int) (w : World) :
 Calls Tryz.prog 108 #[.int .i64 n] w fun e w' => e = .returned (.bool (nodB n)) ∧ w = w' := by
 go_enter Tryz.func108, Tryz.ntmps108
 go_wp2
 all_goals go_ret
 all_goals exact ⟨ret_bool (by rw [Bool.eq_iff_iff]; simp [nodB]; try omega), rfl⟩
set_option maxHeartbeats 400000 in
theorem l4Node_any (n : Int) (w : World) :
 Calls Tryz.prog 86 #[.int .i64 n] w fun e w' => e = .returned (.bool (nodB n)) ∧ w = w' := by
 go_enter Tryz.func86, Tryz.ntmps86
 go_wp2_with (first | (go_at_call 42; refine (l1In_any _ _ _ _).mono ?_; rintro e w' ⟨rfl, rfl⟩))
 go_ret
 exact ⟨ret_bool (by simp [nodB]), rfl⟩
def Box8 (w : World) (j : Nat) (k fr tuu no lo hi sl : Int) (s : ByteArray) : Prop := j < w.heap.size ∧ w.cell? ⟨j, 0, none⟩ = some (.int .i64 k) ∧ w.cell? ⟨j, 1, none⟩ = some (.int .i64 fr) ∧ w.cell? ⟨j, 2, none⟩ = some (.int .i64 tuu) ∧ w.cell? ⟨j, 3, none⟩ = some (.int .i64 no) ∧ w.cell? ⟨j, 4, none⟩ = some (.int .i64 lo) ∧ w.cell? ⟨j, 5, none⟩ = some (.int .i64 hi) ∧ w.cell? ⟨j, 6, none⟩ = some (.int .i64 sl) ∧ w.cell? ⟨j, 7, none⟩ = some (.string s)
theorem Box8.belowB {j B : Nat} {w w' : World} {k fr tuu no lo hi sl : Int} {s : ByteArray} (h : Box8 w j k fr tuu no lo hi sl s) (hw : Below B w w') (hk : j < B) : Box8 w' j k fr tuu no lo hi sl s := by
 obtain ⟨h0, h1, h2, h3, h4, h5, h6, h7, h8⟩ := h
 exact ⟨Nat.lt_of_lt_of_le h0 hw.size, by rw [hw.cell (p := ⟨j, 0, none⟩) hk]; exact h1, by rw [hw.cell (p := ⟨j, 1, none⟩) hk]; exact h2, by rw [hw.cell (p := ⟨j, 2, none⟩) hk]; exact h3, by rw [hw.cell (p := ⟨j, 3, none⟩) hk]; exact h4, by rw [hw.cell (p := ⟨j, 4, none⟩) hk]; exact h5, by rw [hw.cell (p := ⟨j, 5, none⟩) hk]; exact h6, by rw [hw.cell (p := ⟨j, 6, none⟩) hk]; exact h7, by rw [hw.cell (p := ⟨j, 7, none⟩) hk]; exact h8⟩
theorem Box8.below {j : Nat} {w w' : World} {k fr tuu no lo hi sl : Int} {s : ByteArray} (h : Box8 w j k fr tuu no lo hi sl s) (hw : Below w.heap.size w w') : Box8 w' j k fr tuu no lo hi sl s := h.belowB hw h.1
theorem Box8.new (w : World) (k fr tuu no lo hi sl : Int) (s : ByteArray) (T : TypeId) : Box8 (w.alloc (.cells #[.int .i64 k, .int .i64 fr, .int .i64 tuu, .int .i64 no, .int .i64 lo, .int .i64 hi, .int .i64 sl, .string s] T)) w.heap.size k fr tuu no lo hi sl s := ⟨by simp, by simp, by simp, by simp, by simp, by simp, by simp, by simp, by simp⟩
end Go.Proofs.YtddijpjgkifngaaGreat
namespace Go.Proofs.YtddijpjgkifngaaGreat
open Go.RowKit
set_option linter.unusedVariables false
def SrcK (w : World) (a : Option Addr) (m : Nat) (F : Nat → Value) (L : Nat) : Prop := m = 0 ∨ ∃ b off, a = some ⟨b, off, none⟩ ∧ b < L ∧ Cs w b off m F
theorem SrcK.src {w : World} {a : Option Addr} {m L : Nat} {F : Nat → Value} (h : SrcK w a m F L) : SrcC w a m F := by
 rcases h with h | ⟨b, off, h1, _, h2⟩
 ·exact .inl h
 ·exact .inr ⟨b, off, h1, h2⟩
theorem SrcK.below {w w' : World} {a : Option Addr} {m L : Nat} {F : Nat → Value} (h : SrcK w a m F L) (hb : Below w.heap.size w w') : SrcK w' a m F L := by
 rcases h with h | ⟨b, off, h1, h3, h2⟩
 ·exact .inl h
 ·exact .inr ⟨b, off, h1, h3, h2.below hb h2.1⟩
theorem Cs.kept {w w' : World} {o : Option Nat} {b off N : Nat} {F : Nat → Value} (h : Cs w b off N F) (hg : w.grownBy w' o) (hne : some b ≠ o) : Cs w' b off N F :=
 ⟨Nat.lt_of_lt_of_le h.1 hg.size, fun j hj => by
  have := hg.block b h.1 hne
  have q := h.2 j hj
  simp only [World.cell?] at q ⊢
  rw [this]; exact q⟩
theorem SrcK.kept {w w' : World} {o : Option Nat} {a : Option Addr} {m L : Nat} {F : Nat → Value} (h : SrcK w a m F L) (hg : w.grownBy w' o) (hne : ∀ b, b < L → some b ≠ o) : SrcK w' a m F L := by
 rcases h with h | ⟨b, off, h1, h3, h2⟩
 ·exact .inl h
 ·exact .inr ⟨b, off, h1, h3, h2.kept hg (hne b h3)⟩
theorem cell_grown {w w' : World} {o : Option Nat} {b i : Nat} (hg : w.grownBy w' o) (hb : b < w.heap.size) (hne : some b ≠ o) : w'.cell? ⟨b, i, none⟩ = w.cell? ⟨b, i, none⟩ := by
 have := hg.block b hb hne
 simp only [World.cell?]
 rw [this]
theorem grown_belowK {w w' : World} {base : Nat} {e : TypeId} {size : Nat} {v : Value} {n : Nat} {xs : List Value} (h : w.ownsRow base e size v n xs) (hg : w.grownBy w' v.ownBlock) (hs : base ≤ w.heap.size) : Below base w w' :=
 ⟨hg.os, hg.tape, hg.output, hg.size, fun k hk => hg.block k (by omega) (fun he => by have := (World.ownsRow.lt h k he.symm).1; omega)⟩
def MFInt (f : Nat → Int) (c : Nat) : Value := .int .i64 (f c)
abbrev VT : Type := Int × Int
def zV : VT := (0, 0)
def MCIval (M : VT) : Nat → Value
 | 0 => .int .i64 M.1
 | _ => .int .i64 M.2
def MFIval (M : Nat → VT) (c : Nat) : Value := MCIval (M (c / 2)) (c % 2)
theorem MFIval_at (M : Nat → VT) (k j : Nat) (hj : j < 2) : MFIval M (k * 2 + j) = MCIval (M k) j := by
 have h1 : (k * 2 + j) / 2 = k := by omega
 have h2 : (k * 2 + j) % 2 = j := by omega
 rw [MFIval, h1, h2]
theorem MFIval_vals {M : Nat → VT} {k : Nat} {x0 : Int} {x1 : Int} (hM : M k = (x0, x1)) : MFIval M (k * 2) = .int .i64 x0 ∧ MFIval M (k * 2 + 1) = .int .i64 x1 :=
 ⟨by have q := MFIval_at M k 0 (by decide); rw [hM] at q; exact q, by have q := MFIval_at M k 1 (by decide); rw [hM] at q; exact q⟩
theorem Cs.elIval {w : World} {b off n k : Nat} {M : Nat → VT} {x0 : Int} {x1 : Int} (h : Cs w b off (n * 2) (MFIval M)) (hk : k < n) (hM : M k = (x0, x1)) : w.cell? ⟨b, off + k * 2, none⟩ = some (.int .i64 x0) ∧ w.cell? ⟨b, off + k * 2 + 1, none⟩ = some (.int .i64 x1) := by
 obtain ⟨q0, q1⟩ := MFIval_vals hM
 exact ⟨by have := h.2 (k * 2) (by omega); rw [q0] at this; exact this, by have := h.2 (k * 2 + 1) (by omega); rw [q1] at this; exact this⟩
theorem tupIval (M : Nat → VT) (k : Nat) : ∃ (x0 : Int) (x1 : Int), M k = (x0, x1) := ⟨_, _, rfl⟩
def mkIval (q : Int) (c : Nat) : Value := .int .i64 (q + (c : Int))
def gI (L : List Int) (i : Nat) : Int := L.getD i 0
def irow (L : List Int) : List Value := (List.range (L.length * 1)).map (MFInt (gI L))
theorem gI_old {L : List Int} {p : Int} {i : Nat} (h : i < L.length) : gI (L ++ [p]) i = gI L i := by rw [gI, gI, List.getD_eq_getElem?_getD, List.getD_eq_getElem?_getD, List.getElem?_append_left h]
theorem gI_new (L : List Int) (p : Int) : gI (L ++ [p]) L.length = p := by rw [gI, List.getD_eq_getElem?_getD, List.getElem?_append_right (Nat.le_refl _), Nat.sub_self]; rfl
theorem irow_snoc (L : List Int) (p : Int) : irow (L ++ [p]) = irow L ++ [.int .i64 p] := by
 rw [irow, List.length_append, show [p].length = 1 from rfl, mapF_add, irow]
 congr 1
 ·refine List.map_congr_left fun c hc => ?_
  have hc' : c < L.length * 1 := List.mem_range.1 hc
  show Value.int .i64 (gI (L ++ [p]) c) = .int .i64 (gI L c)
  rw [gI_old (by omega)]
 ·show [Value.int .i64 (gI (L ++ [p]) (L.length * 1 + 0))] = [.int .i64 p]
  rw [Nat.mul_one, Nat.add_zero, gI_new]
end Go.Proofs.YtddijpjgkifngaaGreat
namespace Go.Proofs.YtddijpjgkifngaaGreat
open Go.RowKit
set_option linter.unusedVariables false
abbrev SlT : Type := Int × Int
def zSl : SlT := (0, 0)
def lnB (l : Int) : Bool := decide (1 ≤ l ∧ l ≤ 1000000)
def slB (o l : Int) : Bool := nodB o && lnB l
def slA (M : Nat → SlT) : Nat → Bool
 | 0 => true
 | j + 1 => slA M j && slB (M j).1 (M j).2
def gpB (g : Int) : Bool := decide (0 ≤ g ∧ g ≤ 100000)
def cnB (n : Nat) : Bool := decide (1 ≤ (n : Int) ∧ (n : Int) ≤ 12)
def plB (s g : Int) (M : Nat → SlT) (n : Nat) : Bool := okT s && (gpB g && (cnB n && slA M n))
theorem slA_no {M : Nat → SlT} {k n : Nat} (h : slA M (k + 1) = false) (hk : k < n) : slA M n = false := by
 induction n with
 | zero => omega
 | succ n ih =>
  by_cases e : k = n
  ·subst e; exact h
  ·rw [slA, ih (by omega)]; rfl
end Go.Proofs.YtddijpjgkifngaaGreat
namespace Go.Proofs.YtddijpjgkifngaaGreat
open Go.RowKit
set_option linter.unusedVariables false
def hrO (x : VT) : Bool := decide (0 ≤ x.1 ∧ x.1 ≤ 15) && okT x.2
def hrA (M : Nat → VT) : Nat → Bool
 | 0 => true
 | j + 1 => hrA M j && (hrO (M j) && (decide (j = 0) || decide ((M (j - 1)).1 < (M j).1)))
def hrB (M : Nat → VT) (n : Nat) : Bool := decide (n ≤ 16) && hrA M n
theorem hrA_no {M : Nat → VT} {k n : Nat} (h : hrA M (k + 1) = false) (hk : k < n) : hrA M n = false := by
 induction n with
 | zero => omega
 | succ n ih =>
  by_cases e : k = n
  ·subst e; exact h
  ·rw [hrA, ih (by omega)]; rfl
theorem hrB_no {M : Nat → VT} {k n : Nat} (h : hrA M (k + 1) = false) (hk : k < n) : hrB M n = false := by unfold hrB; rw [hrA_no h hk]; simp
theorem hrA_at {M : Nat → VT} {k n : Nat} (h : hrA M n = true) (hk : k < n) : hrO (M k) = true ∧ (k = 0 ∨ (M (k - 1)).1 < (M k).1) := by
 cases e : hrA M (k + 1)
 ·rw [hrA_no e hk] at h; exact absurd h (by decide)
 ·rw [hrA] at e
  simp only [Bool.and_eq_true, Bool.or_eq_true, decide_eq_true_eq] at e
  exact ⟨e.2.1, e.2.2⟩
theorem hrO_t {x : VT} (h : hrO x = true) : (0 ≤ x.1 ∧ x.1 ≤ 15) ∧ (0 ≤ x.2 ∧ x.2 ≤ 1000000000000) := by
 unfold hrO okT at h
 simp at h
 omega
end Go.Proofs.YtddijpjgkifngaaGreat
namespace Go.Proofs.YtddijpjgkifngaaGreat
open Go.RowKit
set_option linter.unusedVariables false
abbrev FrT : Type := Int × Int × Int × Int × Int × ByteArray
def zFr : FrT := (0, 0, 0, 0, 0, ⟨#[]⟩)
def frB (x0 x1 x2 x3 x4 : Int) (x5 : ByteArray) : Bool := nodB x0 && (decide (0 ≤ x1 ∧ x1 ≤ 15) && (decide (0 ≤ x2 ∧ x2 ≤ 1000000000000) && (decide (0 ≤ x3) && (decide (x3 < x4) && (decide (x4 ≤ 1000000000000) && decide (x5.size ≤ 24))))))
def fSt (M : FrT) : Int := M.2.2.2.1
def fEn (M : FrT) : Int := M.2.2.2.2.1
def frM (M : FrT) : Bool := frB M.1 M.2.1 M.2.2.1 M.2.2.2.1 M.2.2.2.2.1 M.2.2.2.2.2
def buA (M : Nat → FrT) : Nat → Bool
 | 0 => true
 | j + 1 => buA M j && (frM (M j) && (decide (j = 0) || !decide (fSt (M j) < fSt (M (j - 1)))))
def buB (M : Nat → FrT) (n : Nat) : Bool := decide (n ≤ 60) && buA M n
theorem buA_no {M : Nat → FrT} {k n : Nat} (h : buA M (k + 1) = false) (hk : k < n) : buA M n = false := by
 induction n with
 | zero => omega
 | succ n ih =>
  by_cases e : k = n
  ·subst e; exact h
  ·rw [buA, ih (by omega)]; rfl
theorem frM_t {M : FrT} (h : frM M = true) : (0 ≤ M.1 ∧ M.1 ≤ 7) ∧ (0 ≤ M.2.1 ∧ M.2.1 ≤ 15) ∧ (0 ≤ M.2.2.1 ∧ M.2.2.1 ≤ 1000000000000) ∧ 0 ≤ fSt M ∧ fSt M < fEn M ∧ fEn M ≤ 1000000000000 ∧ M.2.2.2.2.2.size ≤ 24 := by
 unfold frM frB nodB at h
 simp at h
 unfold fSt fEn
 omega
def Box6 (w : World) (j : Nat) (x0 x1 x2 x3 x4 : Int) (x5 : ByteArray) : Prop := j < w.heap.size ∧ w.cell? ⟨j, 0, none⟩ = some (.int .i64 x0) ∧ w.cell? ⟨j, 1, none⟩ = some (.int .i64 x1) ∧ w.cell? ⟨j, 2, none⟩ = some (.int .i64 x2) ∧ w.cell? ⟨j, 3, none⟩ = some (.int .i64 x3) ∧ w.cell? ⟨j, 4, none⟩ = some (.int .i64 x4) ∧ w.cell? ⟨j, 5, none⟩ = some (.string x5)
theorem Box6.belowB {j B : Nat} {w w' : World} {x0 x1 x2 x3 x4 : Int} {x5 : ByteArray} (h : Box6 w j x0 x1 x2 x3 x4 x5) (hw : Below B w w') (hk : j < B) : Box6 w' j x0 x1 x2 x3 x4 x5 := by
 obtain ⟨h0, h1, h2, h3, h4, h5, h6⟩ := h
 exact ⟨Nat.lt_of_lt_of_le h0 hw.size, by rw [hw.cell (p := ⟨j, 0, none⟩) hk]; exact h1, by rw [hw.cell (p := ⟨j, 1, none⟩) hk]; exact h2, by rw [hw.cell (p := ⟨j, 2, none⟩) hk]; exact h3, by rw [hw.cell (p := ⟨j, 3, none⟩) hk]; exact h4, by rw [hw.cell (p := ⟨j, 4, none⟩) hk]; exact h5, by rw [hw.cell (p := ⟨j, 5, none⟩) hk]; exact h6⟩
theorem Box6.below {j : Nat} {w w' : World} {x0 x1 x2 x3 x4 : Int} {x5 : ByteArray} (h : Box6 w j x0 x1 x2 x3 x4 x5) (hw : Below w.heap.size w w') : Box6 w' j x0 x1 x2 x3 x4 x5 := h.belowB hw h.1
theorem Box6.new (w : World) (x0 x1 x2 x3 x4 : Int) (x5 : ByteArray) (T : TypeId) : Box6 (w.alloc (.cells #[.int .i64 x0, .int .i64 x1, .int .i64 x2, .int .i64 x3, .int .i64 x4, .string x5] T)) w.heap.size x0 x1 x2 x3 x4 x5 := ⟨by simp, by simp, by simp, by simp, by simp, by simp, by simp⟩
set_option maxHeartbeats 1000000 in
theorem szFrame_left (x0 x1 x2 x3 x4 : Int) (x5 : ByteArray) (L : Int) (w : World) (hs : x5.size ≤ maxLen) (L0 : 0 ≤ L) (L1 : L ≤ 1048576) :
 Calls Tryz.prog 81 #[.agg #[.int .i64 x0, .int .i64 x1, .int .i64 x2, .int .i64 x3, .int .i64 x4, .string x5], .int .i64 L] w fun e w' => e = .returned (.int .i64 (if (x5.size : Int) ≤ L then L - (x5.size : Int) else -1)) ∧ Below w.heap.size w w' := by
 unfold maxLen at hs
 have B0 := Below.nw w (.cells #[.int .i64 x0, .int .i64 x1, .int .i64 x2, .int .i64 x3, .int .i64 x4, .string x5] 145)
 by_cases h : (x5.size : Int) ≤ L
 ·rw [if_pos h]
  have hd : decide (L - (x5.size : Int) < 0) = false := by simp; omega
  go_enter Tryz.func81, Tryz.ntmps81
  go_wp2
  go_ret
  exact ⟨rfl, B0⟩
 ·rw [if_neg h]
  have hd : decide (L - (x5.size : Int) < 0) = true := by simp; omega
  go_enter Tryz.func81, Tryz.ntmps81
  go_wp2
  go_ret
  exact ⟨rfl, B0⟩
set_option maxHeartbeats 2000000 in
theorem toFrame_any (x0 x1 x2 x3 x4 : Int) (x5 : ByteArray) (w : World) :
 Calls Tryz.prog 97 #[.agg #[.int .i64 x0, .int .i64 x1, .int .i64 x2, .int .i64 x3, .int .i64 x4, .string x5]] w fun e w' => e = .returned (.agg #[.int .i64 x0, .int .i64 x1, .int .i64 x2, .int .i64 x3, .int .i64 x4, .string x5]) ∧ Below w.heap.size w w' := by
 go_enter Tryz.func97, Tryz.ntmps97
 go_wp2_with fail
 exact bodyPost_ret (v := .agg #[.int .i64 x0, .int .i64 x1, .int .i64 x2, .int .i64 x3, .int .i64 x4, .string x5]) (by simp (maxDischargeDepth := 6) [results, Tryz.results97, go_sem, *]) rfl ⟨rfl, by repeat (first | exact Below.refl _ _ | refine Below.drew ?_ | refine Below.alloc ?_ (by first | (simp; done) | (simp; omega) | omega) _ | refine Below.setCell ?_ (by first | (simp; done) | (simp; omega) | omega) _ | refine Below.trans ?_ (Below.mono (by assumption) (by first | (simp; done) | (simp; omega) | omega)))⟩
set_option maxHeartbeats 2000000 in
theorem eqFrame_same (x0 x1 x2 x3 x4 : Int) (x5 : ByteArray) (w : World) :
 Calls Tryz.prog 105 #[.agg #[.int .i64 x0, .int .i64 x1, .int .i64 x2, .int .i64 x3, .int .i64 x4, .string x5], .agg #[.int .i64 x0, .int .i64 x1, .int .i64 x2, .int .i64 x3, .int .i64 x4, .string x5]] w fun e w' => e = .returned (.bool true) ∧ Below w.heap.size w w' := by
 go_enter Tryz.func105, Tryz.ntmps105
 go_wp2_with fail
 go_ret
 exact ⟨rfl, by repeat (first | exact Below.refl _ _ | refine Below.drew ?_ | refine Below.alloc ?_ (by first | (simp; done) | (simp; omega) | omega) _ | refine Below.setCell ?_ (by first | (simp; done) | (simp; omega) | omega) _ | refine Below.trans ?_ (Below.mono (by assumption) (by first | (simp; done) | (simp; omega) | omega)))⟩
end Go.Proofs.YtddijpjgkifngaaGreat
