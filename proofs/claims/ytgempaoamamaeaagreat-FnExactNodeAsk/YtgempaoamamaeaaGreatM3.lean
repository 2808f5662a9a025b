/- What the laws keep; rows of numbers, of intervals and of peers, told by lists. Boxes that the laws keep. AppOk and AppRead in the specification. Who was heard: numbers. The program: a clock, a look, a reading; what a reading comes to. HeardOk in the program. -/
import Derived.Deep.DeepAppendRoom
import Derived.Test.YtgempaoamamaeaaGreatM2
namespace Go.Proofs.YtgempaoamamaeaaGreat
open Go.RowKit
set_option linter.unusedVariables false
theorem But.grK {w w' : World} {q : Nat} (h : But q w w') : w.grownBy w' (some q) := ⟨h.1, h.2.1, h.2.2.1, h.2.2.2.1, fun k hk hp => h.2.2.2.2 k hk (fun e => hp (by rw [e]))⟩
theorem But.ofGrownK {w w' : World} {q : Nat} (h : w.grownBy w' (some q)) : But q w w' := ⟨h.os, h.tape, h.output, h.size, fun k hk hq => h.block k hk (fun e => hq (by simpa using e))⟩
def SrcK (w : World) (a : Option Addr) (m : Nat) (F : Nat → Value) (L : Nat) : Prop := m = 0 ∨ ∃ b off, a = some ⟨b, off, none⟩ ∧ b < L ∧ Cs w b off m F
theorem SrcK.src {w : World} {a : Option Addr} {m L : Nat} {F : Nat → Value} (h : SrcK w a m F L) : SrcC w a m F := by
  rcases h with h | ⟨b, off, h1, _, h2⟩
  · exact .inl h
  · exact .inr ⟨b, off, h1, h2⟩
theorem SrcK.below {w w' : World} {a : Option Addr} {m L : Nat} {F : Nat → Value} (h : SrcK w a m F L) (hb : Below w.heap.size w w') : SrcK w' a m F L := by
  rcases h with h | ⟨b, off, h1, h3, h2⟩
  · exact .inl h
  · exact .inr ⟨b, off, h1, h3, h2.below hb h2.1⟩
theorem Cs.kept {w w' : World} {o : Option Nat} {b off N : Nat} {F : Nat → Value} (h : Cs w b off N F) (hg : w.grownBy w' o) (hne : some b ≠ o) : Cs w' b off N F :=
  ⟨Nat.lt_of_lt_of_le h.1 hg.size, fun j hj => by
    have := hg.block b h.1 hne
    have q := h.2 j hj
    simp only [World.cell?] at q ⊢
    rw [this]; exact q⟩
theorem SrcK.kept {w w' : World} {o : Option Nat} {a : Option Addr} {m L : Nat} {F : Nat → Value} (h : SrcK w a m F L) (hg : w.grownBy w' o) (hne : ∀ b, b < L → some b ≠ o) : SrcK w' a m F L := by
  rcases h with h | ⟨b, off, h1, h3, h2⟩
  · exact .inl h
  · exact .inr ⟨b, off, h1, h3, h2.kept hg (hne b h3)⟩
theorem SrcC.keptK {w w' : World} {o : Option Nat} {a : Option Addr} {m : Nat} {F : Nat → Value} (h : SrcC w a m F) (hg : w.grownBy w' o) (hne : ∀ b off, a = some ⟨b, off, none⟩ → some b ≠ o) : SrcC w' a m F := by
  rcases h with h | ⟨b, off, h1, h2⟩
  · exact .inl h
  · exact .inr ⟨b, off, h1, h2.kept hg (hne b off h1)⟩
theorem cell_grown {w w' : World} {o : Option Nat} {b i : Nat} (hg : w.grownBy w' o) (hb : b < w.heap.size) (hne : some b ≠ o) : w'.cell? ⟨b, i, none⟩ = w.cell? ⟨b, i, none⟩ := by
  have := hg.block b hb hne
  simp only [World.cell?]
  rw [this]
theorem grown_bel {w w' : World} {o : Option Nat} {B : Nat} (hg : w.grownBy w' o) (hB : B ≤ w.heap.size) (hne : ∀ b, b < B → some b ≠ o) : Below B w w' := ⟨hg.os, hg.tape, hg.output, hg.size, fun k hk => hg.block k (by omega) (hne k hk)⟩
theorem bel_grown {w w' : World} (h : Below w.heap.size w w') : w.grownBy w' none := ⟨h.os, h.tape, h.output, h.size, fun k hk _ => h.block k hk⟩
theorem own_neK {w w' : World} {base p : Nat} {e : TypeId} {size : Nat} {v : Value} {n : Nat} {xs : List Value} (h : w.ownsRow base e size v n xs) (hb : But p w w') (hp : ∀ g, v.ownBlock = some g → g ≠ p) : w'.ownsRow base e size v n xs := by
  refine World.ownsRow.kept h hb.grK ?_
  cases hv : v.ownBlock with
  | none => exact .inl rfl
  | some k =>
    right
    intro e
    injection e with e
    exact hp k hv e
theorem own_butK {w w' : World} {base p : Nat} {e : TypeId} {size : Nat} {v : Value} {n : Nat} {xs : List Value} (h : w.ownsRow base e size v n xs) (hb : But p w w') (hp : p < base) : w'.ownsRow base e size v n xs :=
  own_neK h hb fun g hg e => by have := (World.ownsRow.lt h g hg).1; omega
theorem own_belK {w w' : World} {B base : Nat} {e : TypeId} {size : Nat} {v : Value} {n : Nat} {xs : List Value} (h : w.ownsRow base e size v n xs) (hb : Below B w w') (hlt : ∀ g, v.ownBlock = some g → g < B) : w'.ownsRow base e size v n xs := by
  refine ⟨h.1, ?_⟩
  rcases h.2 with h | ⟨g, cap, cur, rfl, h2, h3, h4⟩
  · exact .inl h
  · exact .inr ⟨g, cap, cur, rfl, h2, (hb.block g (hlt g rfl)).trans h3, h4⟩
theorem own_belK' {w w' : World} {base : Nat} {e : TypeId} {size : Nat} {v : Value} {n : Nat} {xs : List Value} (h : w.ownsRow base e size v n xs) (hb : Below w.heap.size w w') : w'.ownsRow base e size v n xs := own_belK h hb fun g hg => (World.ownsRow.lt h g hg).2
theorem grown_belowK {w w' : World} {base : Nat} {e : TypeId} {size : Nat} {v : Value} {n : Nat} {xs : List Value} (h : w.ownsRow base e size v n xs) (hg : w.grownBy w' v.ownBlock) (hs : base ≤ w.heap.size) : Below base w w' :=
  ⟨hg.os, hg.tape, hg.output, hg.size, fun k hk => hg.block k (by omega) (fun he => by have := (World.ownsRow.lt h k he.symm).1; omega)⟩
def MFInt (f : Nat → Int) (c : Nat) : Value := .int .i64 (f c)
abbrev VT : Type := Int × Int
def zV : VT := (0, 0)
def MCIval (M : VT) : Nat → Value
  | 0 => .int .i64 M.1
  | _ => .int .i64 M.2
def MFIval (M : Nat → VT) (c : Nat) : Value := MCIval (M (c / 2)) (c % 2)
theorem MFIval_at (M : Nat → VT) (k j : Nat) (hj : j < 2) : MFIval M (k * 2 + j) = MCIval (M k) j := by
  have h1 : (k * 2 + j) / 2 = k := by omega
  have h2 : (k * 2 + j) % 2 = j := by omega
  rw [MFIval, h1, h2]
theorem MFIval_vals {M : Nat → VT} {k : Nat} {x0 : Int} {x1 : Int} (hM : M k = (x0, x1)) : MFIval M (k * 2) = .int .i64 x0 ∧ MFIval M (k * 2 + 1) = .int .i64 x1 :=
  ⟨by have q := MFIval_at M k 0 (by decide); rw [hM] at q; exact q, by have q := MFIval_at M k 1 (by decide); rw [hM] at q; exact q⟩
theorem Cs.elIval {w : World} {b off n k : Nat} {M : Nat → VT} {x0 : Int} {x1 : Int} (h : Cs w b off (n * 2) (MFIval M)) (hk : k < n) (hM : M k = (x0, x1)) : w.cell? ⟨b, off + k * 2, none⟩ = some (.int .i64 x0) ∧ w.cell? ⟨b, off + k * 2 + 1, none⟩ = some (.int .i64 x1) := by
  obtain ⟨q0, q1⟩ := MFIval_vals hM
  exact ⟨by have := h.2 (k * 2) (by omega); rw [q0] at this; exact this, by have := h.2 (k * 2 + 1) (by omega); rw [q1] at this; exact this⟩
theorem tupIval (M : Nat → VT) (k : Nat) : ∃ (x0 : Int) (x1 : Int), M k = (x0, x1) := ⟨_, _, rfl⟩
def mkIval (q : Int) (c : Nat) : Value := .int .i64 (q + (c : Int))
theorem mkIval_i {q : Int} {k j : Nat} {x : Int} (h : x = q + ((k * 2 + j : Nat) : Int)) : mkIval q (k * 2 + j) = .int .i64 x := by rw [mkIval, h]
theorem markPeerS_own (a : Option Addr) (n c base : Nat) (q0 : Int) (xs : List Value) (w : World) (hn : n ≤ 1048576) (hq : 0 < q0) (hq1 : q0 ≤ 1073741824) (h : w.ownsRow base 152 5 (.slice a n c) n xs) :
    Calls Tryz.prog 57 #[.slice a n c, .int .i64 q0] w fun e w' => e = .returned (.int .i64 (q0 + (n : Int) * 5)) ∧ SrcC w' a (n * 5) (mkPeer q0) ∧ w.grownBy w' (Value.slice a n c).ownBlock := by
  rcases h.2 with ⟨he, h0⟩ | ⟨g, cap, cur, he, _⟩
  · simp at he
    obtain ⟨rfl, rfl, rfl⟩ := he
    exact (markPeerS_zero none 0 q0 w).mono fun e w' ⟨h1, h2⟩ => ⟨by rw [h1]; simp, .inl (by omega), h2 ▸ bel_grown (Below.refl _ _)⟩
  · simp at he
    obtain ⟨rfl, rfl⟩ := he
    obtain ⟨h1, h2, _, h3⟩ := ownF_row (mkPeer q0) h
    exact (markPeerS_row g (c * 5) n c q0 w hn hq hq1 (Nat.mul_le_mul_right _ h2) h3).mono fun e w' ⟨r1, r2, r3⟩ => ⟨r1, .inr ⟨g, 0, rfl, r2.cs (Nat.mul_le_mul_right _ h2)⟩, r3.grK⟩
def gI (L : List Int) (i : Nat) : Int := L.getD i 0
def irow (L : List Int) : List Value := (List.range (L.length * 1)).map (MFInt (gI L))
theorem gI_old {L : List Int} {p : Int} {i : Nat} (h : i < L.length) : gI (L ++ [p]) i = gI L i := by rw [gI, gI, List.getD_eq_getElem?_getD, List.getD_eq_getElem?_getD, List.getElem?_append_left h]
theorem gI_new (L : List Int) (p : Int) : gI (L ++ [p]) L.length = p := by rw [gI, List.getD_eq_getElem?_getD, List.getElem?_append_right (Nat.le_refl _), Nat.sub_self]; rfl
theorem irow_snoc (L : List Int) (p : Int) : irow (L ++ [p]) = irow L ++ [.int .i64 p] := by
  rw [irow, List.length_append, show [p].length = 1 from rfl, mapF_add, irow]
  congr 1
  · refine List.map_congr_left fun c hc => ?_
    have hc' : c < L.length * 1 := List.mem_range.1 hc
    show Value.int .i64 (gI (L ++ [p]) c) = .int .i64 (gI L c)
    rw [gI_old (by omega)]
  · show [Value.int .i64 (gI (L ++ [p]) (L.length * 1 + 0))] = [.int .i64 p]
    rw [Nat.mul_one, Nat.add_zero, gI_new]
def gV (L : List VT) (i : Nat) : VT := L.getD i zV
def vrow (L : List VT) : List Value := (List.range (L.length * 2)).map (MFIval (gV L))
def gP (L : List PT) (i : Nat) : PT := L.getD i zP
def prow (L : List PT) : List Value := (List.range (L.length * 5)).map (MFPeer (gP L))
end Go.Proofs.YtgempaoamamaeaaGreat
namespace Go.Proofs.YtgempaoamamaeaaGreat
open Go.RowKit
set_option linter.unusedVariables false
def Bx2 (w : World) (k : Nat) (u0 u1 : Value) : Prop := k < w.heap.size ∧ w.cell? ⟨k, 0, none⟩ = some u0 ∧ w.cell? ⟨k, 1, none⟩ = some u1 ∧ w.frozen? ⟨k, 0, none⟩ = false ∧ w.frozen? ⟨k, 1, none⟩ = false
theorem Bx2.belowB {k B : Nat} {w w' : World} {u0 u1 : Value} (h : Bx2 w k u0 u1) (hw : Below B w w') (hk : k < B) : Bx2 w' k u0 u1 := by
  obtain ⟨h0, h1, h2, f1, f2⟩ := h
  exact ⟨Nat.lt_of_lt_of_le h0 hw.size, by rw [hw.cell (p := ⟨k, 0, none⟩) hk]; exact h1, by rw [hw.cell (p := ⟨k, 1, none⟩) hk]; exact h2, by rw [hw.frozen (p := ⟨k, 0, none⟩) hk]; exact f1, by rw [hw.frozen (p := ⟨k, 1, none⟩) hk]; exact f2⟩
theorem Bx2.below {k : Nat} {w w' : World} {u0 u1 : Value} (h : Bx2 w k u0 u1) (hw : Below w.heap.size w w') : Bx2 w' k u0 u1 := h.belowB hw h.1
theorem Bx2.but {w w' : World} {k q : Nat} {u0 u1 : Value} (h : Bx2 w k u0 u1) (hb : But q w w') (hq : k ≠ q) : Bx2 w' k u0 u1 := by
  obtain ⟨h0, h1, h2, f1, f2⟩ := h
  exact ⟨Nat.lt_of_lt_of_le h0 hb.2.2.2.1, by rw [hb.cell h0 hq]; exact h1, by rw [hb.cell h0 hq]; exact h2, by rw [hb.frozen h0 hq]; exact f1, by rw [hb.frozen h0 hq]; exact f2⟩
theorem Bx2.alloc {k : Nat} {w : World} {u0 u1 : Value} (h : Bx2 w k u0 u1) (o : Obj) : Bx2 (w.alloc o) k u0 u1 := h.below ((Below.refl _ _).alloc (Nat.le_refl _) _)
theorem Bx2.new (w : World) (u0 u1 : Value) (T : TypeId) : Bx2 (w.alloc (.cells #[u0, u1] T)) w.heap.size u0 u1 := ⟨by simp, by simp, by simp, by simp, by simp⟩
theorem Bx2.drew {k : Nat} {w : World} {u0 u1 : Value} (h : Bx2 w k u0 u1) : Bx2 w.drew k u0 u1 := h
theorem Bx2.setO {k j : Nat} {w : World} {u0 u1 : Value} (h : Bx2 w k u0 u1) (hk : j ≠ k) (o : Nat) (u : Value) : Bx2 (w.setCell ⟨j, o, none⟩ u) k u0 u1 := by
  have hne : ∀ q, (⟨j, o, none⟩ : Addr) ≠ ⟨k, q, none⟩ := fun q e => hk (congrArg Addr.block e)
  obtain ⟨h0, h1, h2, f1, f2⟩ := h
  exact ⟨by simpa using h0, by rw [World.cell?_setCell_other _ _ _ _ (hne _)]; exact h1, by rw [World.cell?_setCell_other _ _ _ _ (hne _)]; exact h2, by simpa using f1, by simpa using f2⟩
theorem Bx2.set0 {k : Nat} {w : World} {u0 u1 : Value} (h : Bx2 w k u0 u1) (x : Value) : Bx2 (w.setCell ⟨k, 0, none⟩ x) k x u1 := by
  obtain ⟨h0, h1, h2, f1, f2⟩ := h
  exact ⟨by simpa using h0, World.cell?_setCell_same _ _ _ h1, (World.cell?_setCell_other _ _ _ _ (by simp)).trans h2, by simpa using f1, by simpa using f2⟩
theorem Bx2.set1 {k : Nat} {w : World} {u0 u1 : Value} (h : Bx2 w k u0 u1) (x : Value) : Bx2 (w.setCell ⟨k, 1, none⟩ x) k u0 x := by
  obtain ⟨h0, h1, h2, f1, f2⟩ := h
  exact ⟨by simpa using h0, (World.cell?_setCell_other _ _ _ _ (by simp)).trans h1, World.cell?_setCell_same _ _ _ h2, by simpa using f1, by simpa using f2⟩
theorem Bx2.kept {w w' : World} {q : Option Nat} {k : Nat} {u0 u1 : Value} (h : Bx2 w k u0 u1) (hg : w.grownBy w' q) (hq : some k ≠ q) : Bx2 w' k u0 u1 := by
  obtain ⟨h0, h1, h2, f1, f2⟩ := h
  have cc : ∀ i, w'.cell? ⟨k, i, none⟩ = w.cell? ⟨k, i, none⟩ := fun i => cell_grown hg h0 hq
  have ff : ∀ i, w'.frozen? ⟨k, i, none⟩ = w.frozen? ⟨k, i, none⟩ := fun i => by have := hg.block k h0 hq; simp only [World.frozen?]; rw [this]
  exact ⟨Nat.lt_of_lt_of_le h0 hg.size, by rw [cc]; exact h1, by rw [cc]; exact h2, by rw [ff]; exact f1, by rw [ff]; exact f2⟩
end Go.Proofs.YtgempaoamamaeaaGreat
namespace Go.Proofs.YtgempaoamamaeaaGreat
open Go.RowKit
set_option linter.unusedVariables false
def inT (l : Int) : Bool := decide (-1000000000000 ≤ l ∧ l ≤ 1000000000000)
def apB (h : Bool) (l : Int) : Bool := inT l && (h || (l == 0))
set_option maxHeartbeats 2000000 in
theorem specAppOk_any (h : Bool) (l : Int) (w : World) : Calls Tryz.prog 161 #[.agg #[.bool h, .int .i64 l]] w fun e w' => e = .returned (.bool (apB h l)) ∧ Below w.heap.size w w' := by
  have A := Below.nw w (.cells #[.bool h, .int .i64 l] 54)
  have N := Bx2.new w (.bool h) (.int .i64 l) 54
  have C1 := fun w' => l1In_any l (-1000000000000) 1000000000000 w'
  unfold apB
  have e0 : decide (-1000000000000 ≤ l ∧ l ≤ 1000000000000) = inT l := rfl
  rw [e0] at C1
  clear e0
  generalize inT l = q at *
  cases q
  · go_enter Tryz.func161, Tryz.ntmps161
    go_upto_region 1 with fail
    generalize w.alloc (.cells #[.bool h, .int .i64 l] 54) = v at *
    obtain ⟨n0, n1, n2, n3, n4⟩ := id N
    go_wp2_with fail
    refine (C1 _).mono ?_
    rintro e w' ⟨rfl, rfl⟩
    go_wp2_with fail
    go_ret
    exact ⟨rfl, A⟩
  · cases h
    · cases hz : (l == 0)
      all_goals
        go_enter Tryz.func161, Tryz.ntmps161
        go_upto_region 1 with fail
        generalize w.alloc (.cells #[.bool false, .int .i64 l] 54) = v at *
        obtain ⟨n0, n1, n2, n3, n4⟩ := id N
        go_wp2_with fail
        refine (C1 _).mono ?_
        rintro e w' ⟨rfl, rfl⟩
        go_wp2_with fail
        go_ret
        exact ⟨by first | rfl | (rw [hz]; rfl) | (simp; done), A⟩
    · go_enter Tryz.func161, Tryz.ntmps161
      go_upto_region 1 with fail
      generalize w.alloc (.cells #[.bool true, .int .i64 l] 54) = v at *
      obtain ⟨n0, n1, n2, n3, n4⟩ := id N
      go_wp2_with fail
      refine (C1 _).mono ?_
      rintro e w' ⟨rfl, rfl⟩
      go_wp2_with fail
      go_ret
      exact ⟨rfl, A⟩
end Go.Proofs.YtgempaoamamaeaaGreat
namespace Go.Proofs.YtgempaoamamaeaaGreat
open Go.RowKit
set_option linter.unusedVariables false
def hrO (x : VT) : Bool := decide (0 ≤ x.1 ∧ x.1 ≤ 15) && okT x.2
def hrA (M : Nat → VT) : Nat → Bool
  | 0 => true
  | j + 1 => hrA M j && (hrO (M j) && (decide (j = 0) || decide ((M (j - 1)).1 < (M j).1)))
def hrB (M : Nat → VT) (n : Nat) : Bool := decide (n ≤ 16) && hrA M n
theorem hrA_no {M : Nat → VT} {k n : Nat} (h : hrA M (k + 1) = false) (hk : k < n) : hrA M n = false := by
  induction n with
  | zero => omega
  | succ n ih =>
    by_cases e : k = n
    · subst e; exact h
    · rw [hrA, ih (by omega)]; rfl
theorem hrB_no {M : Nat → VT} {k n : Nat} (h : hrA M (k + 1) = false) (hk : k < n) : hrB M n = false := by unfold hrB; rw [hrA_no h hk]; simp
theorem hrA_at {M : Nat → VT} {k n : Nat} (h : hrA M n = true) (hk : k < n) : hrO (M k) = true ∧ (k = 0 ∨ (M (k - 1)).1 < (M k).1) := by
  cases e : hrA M (k + 1)
  · rw [hrA_no e hk] at h; exact absurd h (by decide)
  · rw [hrA] at e
    simp only [Bool.and_eq_true, Bool.or_eq_true, decide_eq_true_eq] at e
    exact ⟨e.2.1, e.2.2⟩
theorem hrO_t {x : VT} (h : hrO x = true) : (0 ≤ x.1 ∧ x.1 ≤ 15) ∧ (0 ≤ x.2 ∧ x.2 ≤ 1000000000000) := by
  unfold hrO okT at h
  simp at h
  omega
end Go.Proofs.YtgempaoamamaeaaGreat
namespace Go.Proofs.YtgempaoamamaeaaGreat
open Go.RowKit
set_option linter.unusedVariables false
set_option maxHeartbeats 2000000 in
theorem appok_any (h : Bool) (l : Int) (w : World) : Calls Tryz.prog 198 #[.agg #[.bool h, .int .i64 l]] w fun e w' => e = .returned (.bool (apB h l)) ∧ Below w.heap.size w w' := by
  have A := Below.nw w (.cells #[.bool h, .int .i64 l] 54)
  by_cases h1 : -1000000000000 ≤ l
  · by_cases h2 : l ≤ 1000000000000
    · have e0 : apB h l = (h || (l == 0)) := by unfold apB inT; rw [decide_eq_true ⟨h1, h2⟩]; rfl
      rw [e0]
      clear e0
      cases h
      · cases hz : (l == 0)
        all_goals
          go_enter Tryz.func198, Tryz.ntmps198
          go_wp2
          go_ret
          exact ⟨by first | rfl | (rw [hz]; rfl) | (simp; done), A⟩
      · go_enter Tryz.func198, Tryz.ntmps198
        go_wp2
        go_ret
        exact ⟨rfl, A⟩
    · have e0 : apB h l = false := by unfold apB inT; rw [decide_eq_false (by omega)]; rfl
      rw [e0]
      clear e0
      go_enter Tryz.func198, Tryz.ntmps198
      go_wp2
      go_ret
      exact ⟨rfl, A⟩
  · have e0 : apB h l = false := by unfold apB inT; rw [decide_eq_false (by omega)]; rfl
    rw [e0]
    clear e0
    go_enter Tryz.func198, Tryz.ntmps198
    go_wp2
    go_ret
    exact ⟨rfl, A⟩
end Go.Proofs.YtgempaoamamaeaaGreat
namespace Go.Proofs.YtgempaoamamaeaaGreat
open Go.RowKit
set_option linter.unusedVariables false
def lstI (M : Nat → VT) : Nat → Int
  | 0 => -1
  | j + 1 => (M j).1
theorem lst_ge {M : Nat → VT} : ∀ {k : Nat}, hrA M k = true → (k : Int) - 1 ≤ lstI M k
  | 0, _ => by show (0 : Int) - 1 ≤ -1; decide
  | k + 1, h => by
    have h1 := hrA_at h (Nat.lt_succ_self k)
    have h0 : hrA M k = true := by
      cases e : hrA M k
      · rw [hrA, e, Bool.false_and] at h; exact absurd h (by decide)
      · rfl
    have ih := lst_ge h0
    have h2 := hrO_t h1.1
    show ((k + 1 : Nat) : Int) - 1 ≤ (M k).1
    cases k with
    | zero => omega
    | succ j =>
      have h3 : (M j).1 < (M (j + 1)).1 := by
        rcases h1.2 with q | q
        · omega
        · simpa using q
      have ih' : ((j + 1 : Nat) : Int) - 1 ≤ (M j).1 := ih
      omega
theorem hr_sixteen {M : Nat → VT} {n : Nat} (h : hrA M n = true) : hrB M n = true := by
  unfold hrB
  rw [h, Bool.and_true]
  refine decide_eq_true ?_
  cases n with
  | zero => omega
  | succ j =>
    have h1 := lst_ge h
    have h2 := hrO_t (hrA_at h (Nat.lt_succ_self j)).1
    have h3 : ((j + 1 : Nat) : Int) - 1 ≤ (M j).1 := h1
    omega
theorem hr_step {M : Nat → VT} {k : Nat} {x0 x1 : Int} (h : hrA M k = true) (hM : M k = (x0, x1)) : hrA M (k + 1) = (decide (lstI M k < x0) && (decide (x0 < 16) && okT x1)) := by
  have hl := lst_ge h
  rw [hrA, h, Bool.true_and, hM]
  unfold hrO
  cases k with
  | zero =>
    show (decide (0 ≤ x0 ∧ x0 ≤ 15) && okT x1 && (decide (0 = 0) || _)) = (decide ((-1 : Int) < x0) && (decide (x0 < 16) && okT x1))
    rw [Bool.eq_iff_iff]
    simp only [Bool.and_eq_true, Bool.or_eq_true, decide_eq_true_eq]
    constructor
    · rintro ⟨⟨h1, h2⟩, h3⟩; exact ⟨by omega, by omega, h2⟩
    · rintro ⟨h1, h2, h3⟩; exact ⟨⟨by omega, h3⟩, by first | trivial | exact Or.inl trivial | exact Or.inl rfl | simp⟩
  | succ j =>
    have hl' : ((j + 1 : Nat) : Int) - 1 ≤ (M j).1 := hl
    show (decide (0 ≤ x0 ∧ x0 ≤ 15) && okT x1 && (decide (j + 1 = 0) || decide ((M (j + 1 - 1)).1 < x0))) = (decide ((M j).1 < x0) && (decide (x0 < 16) && okT x1))
    rw [Nat.add_sub_cancel]
    generalize (M j).1 = z at *
    rw [Bool.eq_iff_iff]
    simp only [Bool.and_eq_true, Bool.or_eq_true, decide_eq_true_eq]
    constructor
    · rintro ⟨⟨h1, h2⟩, h3⟩; exact ⟨by omega, by omega, h2⟩
    · rintro ⟨h1, h2, h3⟩; exact ⟨⟨by omega, h3⟩, Or.inr h1⟩
set_option maxRecDepth 100000 in
set_option maxHeartbeats 8000000 in
theorem implHeardOk_any (a : Option Addr) (n c : Nat) (M : Nat → VT) (w : World) (hm : n ≤ maxLen) (hs : SrcC w a (n * 2) (MFIval M)) :
    Calls Tryz.prog 199 #[.slice a n c] w fun e w' => e = .returned (.bool (hrB M n)) ∧ Below w.heap.size w w' := by
  have HS : Hid (SrcC w a (n * 2) (MFIval M)) := hs
  clear hs
  unfold maxLen at hm
  go_enter Tryz.func199, Tryz.ntmps199
  go_wp2_with fail
  go_loopw [3, 8] (fun l i wr => ∃ (k : Nat), k ≤ n ∧ l = .int .i64 (lstI M k) ∧ i = .int .i64 k ∧ hrA M k = true ∧ Below w.heap.size w wr) (fun _ i _ => n - (intOf i).toNat)
  case atStart => exact ⟨0, Nat.zero_le _, rfl, rfl, rfl, Below.refl _ _⟩
  case round =>
    obtain ⟨k, hk, rfl, rfl, hA, B⟩ := hrel
    by_cases hlt : k < n
    · obtain ⟨x0, x1, hM⟩ := tupIval M k
      obtain ⟨b, off, rfl, hf⟩ : ∃ b off, a = some ⟨b, off, none⟩ ∧ Cs w b off (n * 2) (MFIval M) := by
        rcases HS.out with q | q
        · exact absurd q (by omega)
        · exact q
      obtain ⟨c0, c1⟩ := (hf.below B hf.1).elIval hlt hM
      have HLT : Hid (k < n) := hlt
      have hli : (k : Int) < (n : Int) := by omega
      have C1 := fun w' => isTime_any x1 w'
      have A1 := Below.nw wr (.cells #[.int .i64 x0, .int .i64 x1] 157)
      replace B := B.trans (A1.mono B.size)
      have HX : Hid (hrA M (k + 1) = (decide (lstI M k < x0) && (decide (x0 < 16) && okT x1))) := hr_step hA hM
      have HNX : Hid (lstI M (k + 1) = x0) := by rw [Hid, lstI, hM]
      generalize lstI M k = la at *
      clear hM hA hf A1 HS
      by_cases h1 : x0 ≤ la
      · have HN : Hid (hrA M (k + 1) = false) := by rw [Hid, HX.out, decide_eq_false (by omega)]; rfl
        clear HX HNX C1
        go_wp2_with fail
        go_ret
        exact ⟨ret_bool (hrB_no HN.out HLT.out).symm, B⟩
      by_cases h2 : 16 ≤ x0
      · have HN : Hid (hrA M (k + 1) = false) := by rw [Hid, HX.out, decide_eq_false (p := x0 < 16) (by omega)]; simp
        clear HX HNX C1
        go_wp2_with fail
        go_ret
        exact ⟨ret_bool (hrB_no HN.out HLT.out).symm, B⟩
      replace HX : Hid (hrA M (k + 1) = okT x1) := by rw [Hid, HX.out, decide_eq_true (p := x0 < 16) (by omega), decide_eq_true (p := la < x0) (by omega)]; rfl
      go_wp2_with fail
      refine (C1 _).mono ?_
      rintro e v1 ⟨rfl, rfl⟩
      cases h3 : okT x1
      · have HN : Hid (hrA M (k + 1) = false) := by rw [Hid, HX.out, h3]
        clear HX HNX C1
        go_wp2_with fail
        go_ret
        exact ⟨ret_bool (hrB_no HN.out HLT.out).symm, B⟩
      · have HT : Hid (hrA M (k + 1) = true) := by rw [Hid, HX.out, h3]
        clear HX C1
        go_wp2_with fail
        go_roundw
        case rel => exact ⟨k + 1, HLT.out, by rw [HNX.out], by go_num, HT.out, B⟩
        case measure => have hlt' := HLT.out; simp [intOf]; omega
    · have hkn : k = n := by omega
      subst hkn
      have hli : ¬ (k : Int) < (k : Int) := by omega
      have HR : Hid (hrB M k = true) := hr_sixteen hA
      clear hA
      go_wp2_with fail
      go_ret
      exact ⟨ret_bool HR.out.symm, B⟩
end Go.Proofs.YtgempaoamamaeaaGreat
