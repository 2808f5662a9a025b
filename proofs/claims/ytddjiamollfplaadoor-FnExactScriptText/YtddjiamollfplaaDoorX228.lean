/- Rows of ops. -/
import Derived.Test.YtddjiamollfplaaDoorO192
import Derived.Test.YtddjiamollfplaaDoorX218
import Derived.Deep.OwnRows
import Derived.Deep.RegionHeld3
import Derived.WalkKit
import Derived.WalkSpells
import Derived.WalkLawsBesides
import Derived.Deep.RegionHeld
namespace Go.Proofs.YtddjiamollfplaaDoor
open Go.RowKit
set_option linter.unusedVariables false

/- An op as data; what its seven cells hold; how its list of numbers is handed (W), read by the program (S), one's own (O). -/
structure OpD where
  k : Int
  nd : Int
  tt : Int
  a : Int
  b : Int
  tx : ByteArray
  n : Nat
  f : Nat → Int
def opV (x : OpD) (p : Option Addr) (c : Nat) : Array Value := #[.int .i64 x.k, .int .i64 x.nd, .int .i64 x.tt, .int .i64 x.a, .int .i64 x.b, .string x.tx, .slice p x.n c]
theorem opV_one (x : OpD) (p : Option Addr) (c : Nat) : ∀ u ∈ (opV x p c).toList, u.oneCell' = true := by
  intro u hu
  simp only [opV, List.mem_cons, List.not_mem_nil, or_false] at hu
  rcases hu with h | h | h | h | h | h | h <;> (subst h; rfl)
def OdW (w : World) (A : Array Value) (x : OpD) : Prop := ∃ p c, A = opV x p c ∧ (x.tx.size ≤ maxLen ∧ x.n ≤ maxLen) ∧ SrcC w p x.n (itG x.f)
def OdS (w : World) (A : Array Value) (x : OpD) : Prop := ∃ p c, A = opV x p c ∧ (x.tx.size ≤ maxLen ∧ x.n ≤ maxLen) ∧ LsO w p x.n c x.f
def OdO (w : World) (l : Nat) (A : Array Value) (x : OpD) : Prop := ∃ j, l ≤ j ∧ A = opV x (some ⟨j, 0, none⟩) x.n ∧ (x.tx.size ≤ maxLen ∧ x.n ≤ maxLen) ∧ Cs w j 0 x.n (itG x.f)
theorem OdW.size {w : World} {A : Array Value} {x : OpD} (h : OdW w A x) : A.size = 7 := by
  obtain ⟨p, c, e, _⟩ := h
  rw [e]; rfl
theorem OdW.below {w w' : World} {A : Array Value} {x : OpD} (h : OdW w A x) (hb : Below w.heap.size w w') : OdW w' A x := by
  obtain ⟨p, c, e, hl, h1⟩ := h
  exact ⟨p, c, e, hl, h1.below hb⟩
theorem OdS.below {w w' : World} {A : Array Value} {x : OpD} (h : OdS w A x) (hb : Below w.heap.size w w') : OdS w' A x := by
  obtain ⟨p, c, e, hl, h1⟩ := h
  exact ⟨p, c, e, hl, h1.below hb⟩
theorem OdS.weak {w : World} {A : Array Value} {x : OpD} (h : OdS w A x) : OdW w A x := by
  obtain ⟨p, c, e, hl, h1⟩ := h
  exact ⟨p, c, e, hl, h1.src⟩
theorem OdS.size {w : World} {A : Array Value} {x : OpD} (h : OdS w A x) : A.size = 7 := h.weak.size
theorem OdO.below {w w' : World} {l : Nat} {A : Array Value} {x : OpD} (h : OdO w l A x) (hb : Below w.heap.size w w') : OdO w' l A x := by
  obtain ⟨j, hj, e, hl, h1⟩ := h
  exact ⟨j, hj, e, hl, h1.below hb h1.1⟩
theorem OdO.low {w : World} {l l' : Nat} {A : Array Value} {x : OpD} (h : OdO w l A x) (hl : l' ≤ l) : OdO w l' A x := by
  obtain ⟨j, hj, e, hs, h1⟩ := h
  exact ⟨j, Nat.le_trans hl hj, e, hs, h1⟩
theorem OdO.src {w : World} {l : Nat} {A : Array Value} {x : OpD} (h : OdO w l A x) : OdS w A x := by
  obtain ⟨j, hj, e, hs, h1⟩ := h
  exact ⟨_, _, e, hs, .inr ⟨_, _, rfl, .inr h1⟩⟩
theorem OdO.size {w : World} {l : Nat} {A : Array Value} {x : OpD} (h : OdO w l A x) : A.size = 7 := h.src.size
theorem OdO.one {w : World} {l : Nat} {A : Array Value} {x : OpD} (h : OdO w l A x) : ∀ u ∈ A.toList, u.oneCell' = true := by
  obtain ⟨j, hj, e, _⟩ := h
  rw [e]; exact opV_one x _ _
theorem putA_cellO (k : Nat) (p : Addr) (hp : p.block ≠ k) : ∀ (us : List Value) (w : World) (o : Nat), (putA w k o us).cell? p = w.cell? p
  | [], _, _ => rfl
  | u :: us, w, o => by
    rw [putA, putA_cellO k p hp us]
    exact World.cell?_setCell_other _ _ _ _ (fun e => hp (by rw [← e]))
theorem OdO.put {w : World} {l g o : Nat} {A : Array Value} {x : OpD} (us : List Value) (h : OdO w l A x) (hg : g + 1 ≤ l) : OdO (putA w g o us) l A x := by
  obtain ⟨j, hj, e, hs, h1⟩ := h
  refine ⟨j, hj, e, hs, by rw [putA_size]; exact h1.1, fun i hi => ?_⟩
  rw [putA_cellO g _ (by show j ≠ g; omega)]
  exact h1.2 i hi
theorem OdS.one {w : World} {A : Array Value} {x : OpD} (h : OdS w A x) : ∀ u ∈ A.toList, u.oneCell' = true := by
  obtain ⟨p, c, e, _⟩ := h
  rw [e]; exact opV_one x _ _
/- Rows of ops: the cells of the i-th node lie from 7 i on; what a node's array reads as is said by Q. -/
def CsP (w : World) (b off n : Nat) (AM : Nat → Array Value) : Prop := b < w.heap.size ∧ ∀ i, i < n → ∀ j u, (AM i)[j]? = some u → w.cell? ⟨b, off + i * 7 + j, none⟩ = some u
theorem CsP.below {w w' : World} {b off n : Nat} {AM : Nat → Array Value} (h : CsP w b off n AM) (hb : Below w.heap.size w w') : CsP w' b off n AM :=
  ⟨Nat.lt_of_lt_of_le h.1 hb.size, fun i hi j u hj => by rw [hb.cell (p := ⟨b, off + i * 7 + j, none⟩) h.1]; exact h.2 i hi j u hj⟩
theorem CsP.load {P : Program} {w : World} {b off n i : Nat} {AM : Nat → Array Value} (h : CsP w b off n AM) (hi : i < n) (hs : (AM i).size = 7) : (loadCells ⟨b, off + i * 7, none⟩ 7).run P w = .ok (AM i) w := by
  have e := run_loadCells_list (P := P) w ⟨b, off + i * 7, none⟩ (AM i).toList (fun j v hj => by rw [add_at]; exact h.2 i hi j v (by simpa using hj))
  have e2 : (AM i).toList.length = 7 := by simpa using hs
  rw [e2, Array.toArray_toList] at e
  exact e
def RwP (Q : World → Array Value → OpD → Prop) (w : World) (a : Option Addr) (n : Nat) (XM : Nat → OpD) : Prop := n = 0 ∨ ∃ b off AM, a = some ⟨b, off, none⟩ ∧ CsP w b off n AM ∧ ∀ i, i < n → Q w (AM i) (XM i)
theorem RwP.belowW {w w' : World} {a : Option Addr} {n : Nat} {XM : Nat → OpD} (h : RwP OdW w a n XM) (hb : Below w.heap.size w w') : RwP OdW w' a n XM := by
  rcases h with h | ⟨b, off, AM, e, hc, hq⟩
  · exact .inl h
  · exact .inr ⟨b, off, AM, e, hc.below hb, fun i hi => (hq i hi).below hb⟩
theorem RwP.belowS {w w' : World} {a : Option Addr} {n : Nat} {XM : Nat → OpD} (h : RwP OdS w a n XM) (hb : Below w.heap.size w w') : RwP OdS w' a n XM := by
  rcases h with h | ⟨b, off, AM, e, hc, hq⟩
  · exact .inl h
  · exact .inr ⟨b, off, AM, e, hc.below hb, fun i hi => (hq i hi).below hb⟩
theorem RwP.weak {w : World} {a : Option Addr} {n : Nat} {XM : Nat → OpD} (h : RwP OdS w a n XM) : RwP OdW w a n XM := by
  rcases h with h | ⟨b, off, AM, e, hc, hq⟩
  · exact .inl h
  · exact .inr ⟨b, off, AM, e, hc, fun i hi => (hq i hi).weak⟩
def shO (x : OpD) : Prop := x.tx.size ≤ 1048576 ∧ x.n ≤ 1048576
theorem eqOpW (A A' : Array Value) (x : OpD) (w : World) (h : OdW w A x) (h' : OdW w A' x) :
    Calls Tryd.prog 25 #[.agg A, .agg A'] w fun e w' => e = .returned (.bool true) ∧ Below w.heap.size w w' := by
  obtain ⟨p, c, rfl, hl, h1⟩ := h
  obtain ⟨p', c', rfl, hl', h1'⟩ := h'
  exact eqOp_same x.k x.nd x.tt x.a x.b x.tx p p' x.n c c' x.f w hl.2 h1 h1'
set_option maxHeartbeats 4000000 in
theorem szOp_at (Z : Int) (Z0 : 0 ≤ Z) (Z1 : Z ≤ 1048576) (k nd tt a b : Int) (tx : ByteArray) (p : Option Addr) (n c : Nat) (w : World) (hx : tx.size ≤ maxLen) (hn : n ≤ maxLen) :
    Calls Tryd.prog 21 #[.agg #[.int .i64 k, .int .i64 nd, .int .i64 tt, .int .i64 a, .int .i64 b, .string tx, .slice p n c], .int .i64 Z] w fun e w' => ∃ L : Int, e = .returned (.int .i64 L) ∧ (0 ≤ L → L ≤ 1048576 ∧ tx.size ≤ 1048576 ∧ n ≤ 1048576) ∧ Below w.heap.size w w' := by
  have B := Below.nw w (.cells #[.int .i64 k, .int .i64 nd, .int .i64 tt, .int .i64 a, .int .i64 b, .string tx, .slice p n c] 36)
  unfold maxLen at hx
  by_cases h : (tx.size : Int) ≤ Z
  · have hd : decide (Z - (tx.size : Int) < 0) = false := by simp; omega
    by_cases h2 : (n : Int) ≤ Z - (tx.size : Int)
    · have hneg : ¬ (Z - (tx.size : Int) - (n : Int) < 0) := by omega
      go_enter Tryd.func21, Tryd.ntmps21
      go_wp2_with fail
      refine (szIntG_any _ _ _ _ _ hn (by omega) (by omega)).mono ?_
      rintro e w1 ⟨rfl, rfl⟩
      rw [if_pos h2]
      go_wp2_with fail
      go_ret
      exact ⟨_, rfl, fun _ => by refine ⟨?_, ?_, ?_⟩ <;> omega, B⟩
    · go_enter Tryd.func21, Tryd.ntmps21
      go_wp2_with fail
      refine (szIntG_any _ _ _ _ _ hn (by omega) (by omega)).mono ?_
      rintro e w1 ⟨rfl, rfl⟩
      rw [if_neg (Int.not_le.2 h2)]
      go_wp2_with fail
      go_ret
      exact ⟨_, rfl, fun h => absurd h (by decide), B⟩
  · have hd : decide (Z - (tx.size : Int) < 0) = true := by simp; omega
    go_enter Tryd.func21, Tryd.ntmps21
    go_wp2_with fail
    go_ret
    exact ⟨_, rfl, fun h => absurd h (by decide), B⟩

theorem szOpW (A : Array Value) (x : OpD) (Z : Int) (w : World) (h : OdW w A x) (Z0 : 0 ≤ Z) (Z1 : Z ≤ 1048576) :
    Calls Tryd.prog 21 #[.agg A, .int .i64 Z] w fun e w' => ∃ L : Int, e = .returned (.int .i64 L) ∧ (0 ≤ L → shO x ∧ L ≤ 1048576) ∧ Below w.heap.size w w' := by
  obtain ⟨p, c, rfl, hl, h1⟩ := h
  exact (szOp_at Z Z0 Z1 x.k x.nd x.tt x.a x.b x.tx p x.n c w hl.1 hl.2).mono fun e w' ⟨L, h1, h2, h3⟩ => ⟨L, h1, fun h => ⟨⟨(h2 h).2.1, (h2 h).2.2⟩, (h2 h).1⟩, h3⟩
theorem toOpW (A : Array Value) (x : OpD) (w : World) (h : OdW w A x) (hz : shO x) :
    Calls Tryd.prog 23 #[.agg A] w fun e w' => ∃ R, e = .returned (.agg R) ∧ OdO w' w.heap.size R x ∧ Below w.heap.size w w' := by
  obtain ⟨p, c, rfl, hl, h1⟩ := h
  exact (toOp_any x.k x.nd x.tt x.a x.b x.tx p x.n c x.f w hz.2 h1).mono fun e w' ⟨j, h1, h2, h3, h4⟩ => ⟨_, h1, ⟨j, h2, rfl, hl, h3.cs (Nat.le_refl _)⟩, h4⟩
/- A row of ops that is being filled. -/
def NvO (w : World) (g n k : Nat) (XM : Nat → OpD) : Prop := ∃ (A : Array Value) (AM : Nat → Array Value), Bo w g A ∧ A.size = n * 7 ∧ (∀ i, i < k → ∀ j u, (AM i)[j]? = some u → A[i * 7 + j]? = some u) ∧ ∀ i, i < k → OdO w (g + 1) (AM i) (XM i)
theorem NvO.below {w w' : World} {g n k : Nat} {XM : Nat → OpD} (h : NvO w g n k XM) (hb : Below w.heap.size w w') : NvO w' g n k XM := by
  obtain ⟨A, AM, h1, h2, h3, h4⟩ := h
  exact ⟨A, AM, h1.below hb, h2, h3, fun i hi => (h4 i hi).below hb⟩
theorem NvO.bo {w : World} {g n k : Nat} {XM : Nat → OpD} (h : NvO w g n k XM) : ∃ A, Bo w g A ∧ A.size = n * 7 := by
  obtain ⟨A, AM, h1, h2, _⟩ := h
  exact ⟨A, h1, h2⟩
theorem NvO.put {w : World} {g n k l : Nat} {XM : Nat → OpD} {R : Array Value} (h : NvO w g n k XM) (hR : OdO w l R (XM k)) (hl : g + 1 ≤ l) (hk : k < n) : NvO (putA w g (k * 7) R.toList) g n (k + 1) XM := by
  obtain ⟨A, AM, h1, h2, h3, h4⟩ := h
  have hs := hR.size
  refine ⟨spl A (k * 7) R.toList, fun i => if i = k then R else AM i, Bo.put R.toList (k * 7) h1, by rw [spl_size, h2], fun i hi j u hj => ?_, fun i hi => ?_⟩
  · rw [spl_get _ _ _ _ (by simp [hs]; omega)]
    have hj : (if i = k then R else AM i)[j]? = some u := hj
    by_cases e : i = k
    · subst e
      rw [if_pos rfl] at hj
      have hj7 : j < 7 := by have := (Array.getElem?_eq_some_iff.1 hj).1; omega
      rw [if_pos (by simp [hs]; omega), Array.getElem?_toList, show i * 7 + j - i * 7 = j by omega]
      exact hj
    · rw [if_neg e] at hj
      have hj7 : j < 7 := by have := (Array.getElem?_eq_some_iff.1 hj).1; have := (h4 i (by omega)).size; omega
      rw [if_neg (by omega)]
      exact h3 i (by omega) j u hj
  · show OdO _ _ (if i = k then R else AM i) (XM i)
    by_cases e : i = k
    · subst e
      rw [if_pos rfl]
      exact (hR.low hl).put R.toList (Nat.le_refl _)
    · rw [if_neg e]
      exact (h4 i (by omega)).put R.toList (Nat.le_refl _)
theorem NvO.done {w : World} {g n : Nat} {XM : Nat → OpD} (h : NvO w g n n XM) : ∃ AM, CsP w g 0 n AM ∧ ∀ i, i < n → OdO w (g + 1) (AM i) (XM i) := by
  obtain ⟨A, AM, h1, h2, h3, h4⟩ := h
  exact ⟨AM, ⟨h1.1, fun i hi j u hj => by rw [Nat.zero_add]; exact h1.cell (h3 i hi j u hj)⟩, h4⟩
def rowObjOp (n : Nat) : Obj := .cells (madeCells #[.int .i64 0, .int .i64 0, .int .i64 0, .int .i64 0, .int .i64 0, .string ⟨#[]⟩, .slice none 0 0] (n * 7)) 39
theorem infoOp : (Tryd.prog.info? 39).map (fun i => (i.zero, i.size, i.bytes)) = some (some (.agg #[.int .i64 0, .int .i64 0, .int .i64 0, .int .i64 0, .int .i64 0, .string ⟨#[]⟩, .slice none 0 0]), 7, 80) := by kernel_rfl
theorem mk_rowOp (n : Nat) (h : n ≤ 1048576) (w : World) : (Instr.makeSlice 49 (.int .i64 (n : Int)) (.int .i64 (n : Int))).run Tryd.prog w = .ok (.slice (some ⟨w.heap.size, 0, none⟩) n n) (w.alloc (rowObjOp n)) := by
  obtain ⟨i, hi, hz⟩ := Option.map_eq_some_iff.1 infoOp
  simp only [Prod.mk.injEq] at hz
  obtain ⟨h1, h2, h3⟩ := hz
  have hr := run_make (P := Tryd.prog) w 49 39 i _ Tryd.underlying49 hi h1 .i64 .i64 n n (by omega) (Int.le_refl _) (by rw [h3]; omega) (by omega)
  simp only [Int.toNat_natCast, h2] at hr
  exact hr
theorem NvO.new (w : World) (n : Nat) (XM : Nat → OpD) : NvO (w.alloc (rowObjOp n)) w.heap.size n 0 XM :=
  ⟨_, fun _ => #[], Bo.new w _ 39, size_madeCells _ _, fun i hi => absurd hi (Nat.not_lt_zero _), fun i hi => absurd hi (Nat.not_lt_zero _)⟩
attribute [-go_sem] loadCells storeCells in
set_option maxRecDepth 100000 in
set_option maxHeartbeats 8000000 in
theorem toOpN_some (b off n c : Nat) (XM : Nat → OpD) (AM : Nat → Array Value) (w : World) (hn : n ≤ 1048576) (hc : CsP w b off n AM) (hq : ∀ i, i < n → OdW w (AM i) (XM i)) (hz : ∀ i, i < n → shO (XM i)) :
    Calls Tryd.prog 32 #[.slice (some ⟨b, off, none⟩) n c] w fun e w' => e = .returned (.slice (some ⟨w.heap.size, 0, none⟩) n n) ∧ NvO w' w.heap.size n n XM ∧ Below w.heap.size w w' := by
  have hmk := mk_rowOp n hn
  have HC : Hid (CsP w b off n AM) := hc
  have HQ : Hid (∀ i, i < n → OdW w (AM i) (XM i)) := hq
  have HZ : Hid (∀ i, i < n → shO (XM i)) := hz
  clear hc hq hz
  go_enter Tryd.func32, Tryd.ntmps32
  go_wp2_with fail
  clear hmk
  go_loopw [4] (fun i wr => ∃ k : Nat, k ≤ n ∧ i = .int .i64 k ∧ NvO wr w.heap.size n k XM ∧ Below w.heap.size w wr) (fun i _ => n - (intOf i).toNat)
  case atStart => exact ⟨0, Nat.zero_le _, rfl, NvO.new w n XM, Below.nw _ _⟩
  case round =>
    obtain ⟨k, hk, rfl, N, B⟩ := hrel
    by_cases hlt : k < n
    · have hx := HQ.out k hlt
      have hxs := hx.size
      have hL := (HC.out.below B).load (P := Tryd.prog) hlt hxs
      have hli : (k : Int) < (n : Int) := by omega
      have CT := toOpW (AM k) (XM k) wr (hx.below B) (HZ.out k hlt)
      generalize AM k = Ak at *
      clear hx
      go_wp2_with (rw [hL])
      refine CT.mono ?_
      rintro e w2 ⟨R, rfl, O, hb⟩
      clear hL CT
      have hg1 : w.heap.size + 1 ≤ wr.heap.size := by obtain ⟨A, h1, _⟩ := N.bo; exact h1.1
      replace N := N.below hb
      replace B := B.trans (hb.mono B.size)
      clear hb
      have N2 := N.put O hg1 hlt
      obtain ⟨A, hA, hAs⟩ := N.bo
      have hRs := O.size
      have hst : (storeCells ⟨w.heap.size, k * 7, none⟩ R.toList 0).run Tryd.prog w2 = .ok () (putA w2 w.heap.size (k * 7) R.toList) := Bo.store (P := Tryd.prog) (b := k * 7) R.toList (k * 7) 0 hA rfl (by simp [hRs]; omega) O.one
      have B2 := putA_below (k := w.heap.size) R.toList w w2 (k * 7) B (Nat.le_refl _)
      clear hA hAs O N B hg1
      go_wp2_with (rw [hst])
      clear hst
      generalize putA w2 w.heap.size (k * 7) R.toList = w3 at *
      go_roundw
      case rel => exact ⟨k + 1, by omega, by go_num, N2, B2⟩
      case measure => simp [intOf]; omega
    · have hkn : k = n := by omega
      subst hkn
      have hli : ¬ (k : Int) < (k : Int) := by omega
      go_wp2_with fail
      go_ret
      exact ⟨rfl, N, B⟩
set_option maxHeartbeats 1000000 in
theorem toOpN_zero (a : Option Addr) (c : Nat) (XM : Nat → OpD) (w : World) :
    Calls Tryd.prog 32 #[.slice a 0 c] w fun e w' => e = .returned (.slice (some ⟨w.heap.size, 0, none⟩) 0 0) ∧ NvO w' w.heap.size 0 0 XM ∧ Below w.heap.size w w' := by
  have hmk := mk_rowOp 0 (by omega)
  simp only [Int.ofNat_zero] at hmk
  go_enter Tryd.func32, Tryd.ntmps32
  go_wp2_with fail
  clear hmk
  go_loopw [4] (fun i wr => i = .int .i64 0 ∧ NvO wr w.heap.size 0 0 XM ∧ Below w.heap.size w wr) (fun i _ => 0)
  case atStart => exact ⟨rfl, NvO.new w 0 XM, Below.nw _ _⟩
  case round =>
    obtain ⟨rfl, N, B⟩ := hrel
    go_wp2_with fail
    go_ret
    exact ⟨rfl, N, B⟩
theorem toOpN_any (a : Option Addr) (n c : Nat) (XM : Nat → OpD) (w : World) (hn : n ≤ 1048576) (h : RwP OdW w a n XM) (hz : ∀ i, i < n → shO (XM i)) :
    Calls Tryd.prog 32 #[.slice a n c] w fun e w' => e = .returned (.slice (some ⟨w.heap.size, 0, none⟩) n n) ∧ NvO w' w.heap.size n n XM ∧ Below w.heap.size w w' := by
  rcases h with rfl | ⟨b, off, AM, rfl, hc, hq⟩
  · exact toOpN_zero a c XM w
  · exact toOpN_some b off n c XM AM w hn hc hq hz
theorem NvO.row {w : World} {g n : Nat} {XM : Nat → OpD} (h : NvO w g n n XM) : RwP OdS w (some ⟨g, 0, none⟩) n XM := by
  obtain ⟨AM, hc, hq⟩ := h.done
  exact .inr ⟨g, 0, AM, rfl, hc, fun i hi => (hq i hi).src⟩
attribute [-go_sem] loadCells storeCells in
set_option maxRecDepth 100000 in
set_option maxHeartbeats 8000000 in
theorem eqOpN_some (b off b' off' n c c' : Nat) (XM : Nat → OpD) (AM BM : Nat → Array Value) (w : World) (hn : n ≤ maxLen) (hc : CsP w b off n AM) (hq : ∀ i, i < n → OdW w (AM i) (XM i)) (hc' : CsP w b' off' n BM) (hq' : ∀ i, i < n → OdW w (BM i) (XM i)) :
    Calls Tryd.prog 34 #[.slice (some ⟨b, off, none⟩) n c, .slice (some ⟨b', off', none⟩) n c'] w fun e w' => e = .returned (.bool true) ∧ Below w.heap.size w w' := by
  unfold maxLen at hn
  have HC : Hid (CsP w b off n AM) := hc
  have HQ : Hid (∀ i, i < n → OdW w (AM i) (XM i)) := hq
  have HC' : Hid (CsP w b' off' n BM) := hc'
  have HQ' : Hid (∀ i, i < n → OdW w (BM i) (XM i)) := hq'
  clear hc hq hc' hq'
  go_enter Tryd.func34, Tryd.ntmps34
  go_wp2_with fail
  go_loopw [5] (fun i wr => ∃ k : Nat, k ≤ n ∧ i = .int .i64 k ∧ Below w.heap.size w wr) (fun i _ => n - (intOf i).toNat)
  case atStart => exact ⟨0, Nat.zero_le _, rfl, Below.refl _ _⟩
  case round =>
    obtain ⟨k, hk, rfl, B⟩ := hrel
    by_cases hlt : k < n
    · have hx := HQ.out k hlt
      have hx' := HQ'.out k hlt
      have hxs := hx.size
      have hxs' := hx'.size
      have hL := HC.out.below B
      have hL' := HC'.out.below B
      have hli : (k : Int) < (n : Int) := by omega
      have CE := fun (v : World) (h : Below wr.heap.size wr v) => eqOpW (AM k) (BM k) (XM k) v ((hx.below B).below h) ((hx'.below B).below h)
      have SK : Hid (∀ w', Below wr.heap.size wr w' → (loadCells ⟨b, off + k * 7, none⟩ 7).run Tryd.prog w' = .ok (AM k) w' ∧ (loadCells ⟨b', off' + k * 7, none⟩ 7).run Tryd.prog w' = .ok (BM k) w') := fun w' hw => ⟨(hL.below hw).load (P := Tryd.prog) hlt hxs, (hL'.below hw).load (P := Tryd.prog) hlt hxs'⟩
      generalize AM k = Ak at *
      generalize BM k = Bk at *
      clear hx hx' hL hL' hxs hxs'
      go_wp2_with fail
      refine wp_region_held_drew (S := (fun w' => (loadCells ⟨b, off + k * 7, none⟩ 7).run Tryd.prog w' = .ok Ak w' ∧ (loadCells ⟨b', off' + k * 7, none⟩ 7).run Tryd.prog w' = .ok Bk w')) (by kernel_rfl) ?_ (fun hHeld => ?_)
      · first | exact SK.out _ XB | exact SK.out _ (Below.drew (Below.refl _ _))
      have XB : Below wr.heap.size wr wr.drew := Below.drew (Below.refl _ _)
      generalize wr.drew = vx at *
      refine wpAnyH_take (i := 0) (v := ?_) (by rw [List.getElem?_toArray]; rfl) (by kernel_rfl) (by kernel_rfl) (by kernel_rfl) (by intro _ _ _ h; exact h) (Or.inl ⟨by rfl, ?_⟩) (by assumption) ?_
      rotate_left
      · (intro w hSw; (try dsimp only at hSw); go_simp; all_goals with_reducible rfl)
      (try simp only [Act.put, List.setIfInBounds_toArray, List.set_cons_zero, List.set_cons_succ])
      refine wpAnyH_take (i := 1) (v := ?_) (by rw [List.getElem?_toArray]; rfl) (by kernel_rfl) (by kernel_rfl) (by kernel_rfl) (by intro _ _ _ h; exact h) (Or.inl ⟨by rfl, ?_⟩) (by assumption) ?_
      rotate_left
      · (intro w hSw; (try dsimp only at hSw); go_simp; all_goals with_reducible rfl)
      (try simp only [Act.put, List.setIfInBounds_toArray, List.set_cons_zero, List.set_cons_succ])
      refine wpAnyH_take (i := 2) (v := ?_) (by rw [List.getElem?_toArray]; rfl) (by kernel_rfl) (by kernel_rfl) (by kernel_rfl) (by intro _ _ _ h; exact h) (Or.inl ⟨by rfl, ?_⟩) (by assumption) ?_
      rotate_left
      · (intro w hSw; (try dsimp only at hSw); go_simp; all_goals with_reducible rfl)
      (try simp only [Act.put, List.setIfInBounds_toArray, List.set_cons_zero, List.set_cons_succ])
      refine wpAnyH_take (i := 3) (v := ?_) (by rw [List.getElem?_toArray]; rfl) (by kernel_rfl) (by kernel_rfl) (by kernel_rfl) (by intro _ _ _ h; exact h) (Or.inl ⟨by rfl, ?_⟩) (by assumption) ?_
      rotate_left
      · (intro w hSw; (try dsimp only at hSw); go_simp; all_goals with_reducible rfl)
      (try simp only [Act.put, List.setIfInBounds_toArray, List.set_cons_zero, List.set_cons_succ])
      refine wpAnyH_take (i := 4) (v := ?_) (by rw [List.getElem?_toArray]; rfl) (by kernel_rfl) (by kernel_rfl) (by kernel_rfl) (by intro _ _ _ h; exact h) (Or.inl ⟨by rfl, ?_⟩) (by assumption) ?_
      rotate_left
      · (intro w hSw; (try dsimp only at hSw); go_simp; all_goals with_reducible rfl)
      (try simp only [Act.put, List.setIfInBounds_toArray, List.set_cons_zero, List.set_cons_succ])
      refine wpAnyH_take (i := 5) (v := ?_) (by rw [List.getElem?_toArray]; rfl) (by kernel_rfl) (by kernel_rfl) (by kernel_rfl) (by intro _ _ _ h; exact h) (Or.inl ⟨by rfl, ?_⟩) (by assumption) ?_
      rotate_left
      · (intro w hSw; (try dsimp only at hSw); go_simp; all_goals with_reducible rfl)
      (try simp only [Act.put, List.setIfInBounds_toArray, List.set_cons_zero, List.set_cons_succ])
      refine wpAnyH_take (i := 6) (v := ?_) (by rw [List.getElem?_toArray]; rfl) (by kernel_rfl) (by kernel_rfl) (by kernel_rfl) (by intro _ _ _ h; exact h) (Or.inl ⟨by rfl, ?_⟩) (by assumption) ?_
      rotate_left
      · (intro w hSw; (try dsimp only at hSw); go_simp; all_goals with_reducible rfl)
      (try simp only [Act.put, List.setIfInBounds_toArray, List.set_cons_zero, List.set_cons_succ])
      refine wpAnyH_take (i := 7) (v := ?_) (by rw [List.getElem?_toArray]; rfl) (by kernel_rfl) (by kernel_rfl) (by kernel_rfl) (by intro _ _ _ h; exact h) (Or.inl ⟨by rfl, ?_⟩) (by assumption) ?_
      rotate_left
      · (intro w hSw; (try dsimp only at hSw); go_simp; all_goals with_reducible rfl)
      (try simp only [Act.put, List.setIfInBounds_toArray, List.set_cons_zero, List.set_cons_succ])
      refine wpAnyH_ready (rs := [8]) (by kernel_rfl) (by simp) ?_
      refine AllReadyH.cons (by rw [List.getElem?_toArray]; rfl) (fun K hK => ?_) AllReadyH.nil
      go_simp
      refine (CE _ (XB)).mono ?_; rintro ee vx ⟨rfl, hbl⟩; (replace XB := XB.trans (hbl.mono XB.size)); (clear hbl)
      (try go_wp2_with fail)
      refine hK.out _ _ ?_ (fun hHeld => ?_)
      · first | exact SK.out _ XB | exact SK.out _ (Below.drew (Below.refl _ _))
      clear hK K
      (try simp only [Act.put, List.setIfInBounds_toArray, List.set_cons_zero, List.set_cons_succ])
      refine wpAnyH_take (i := 9) (v := ?_) (by rw [List.getElem?_toArray]; rfl) (by kernel_rfl) (by kernel_rfl) (by kernel_rfl) (by intro _ _ _ h; exact h) (Or.inl ⟨by rfl, ?_⟩) (by assumption) ?_
      rotate_left
      · (intro w hSw; (try dsimp only at hSw); go_simp; all_goals with_reducible rfl)
      (try simp only [Act.put, List.setIfInBounds_toArray, List.set_cons_zero, List.set_cons_succ])
      refine wpAnyH_done (by kernel_rfl) ?_ _
      have B2 := B.trans (XB.mono B.size)
      clear SK XB CE
      go_wp2_with fail
      go_roundw
      case rel => exact ⟨k + 1, by omega, by go_num, B2⟩
      case measure => simp [intOf]; omega
    · have hli : ¬ (k : Int) < (n : Int) := by omega
      go_wp2_with fail
      go_ret
      exact ⟨rfl, B⟩
set_option maxHeartbeats 400000 in
theorem eqOpN_zero (a a' : Option Addr) (c c' : Nat) (w : World) :
    Calls Tryd.prog 34 #[.slice a 0 c, .slice a' 0 c'] w fun e w' => e = .returned (.bool true) ∧ Below w.heap.size w w' := by
  go_enter Tryd.func34, Tryd.ntmps34
  go_wp2_with fail
  go_loopw [5] (fun i wr => i = .int .i64 0 ∧ w = wr) (fun i _ => 0)
  case atStart => exact ⟨rfl, by first | rfl | trivial⟩
  case round =>
    obtain ⟨rfl, rfl⟩ := hrel
    go_wp2_with fail
    go_ret
    exact ⟨rfl, Below.refl _ _⟩
theorem eqOpN_any (a a' : Option Addr) (n c c' : Nat) (XM : Nat → OpD) (w : World) (hn : n ≤ maxLen) (h : RwP OdW w a n XM) (h' : RwP OdW w a' n XM) :
    Calls Tryd.prog 34 #[.slice a n c, .slice a' n c'] w fun e w' => e = .returned (.bool true) ∧ Below w.heap.size w w' := by
  by_cases h0 : n = 0
  · subst h0; exact eqOpN_zero a a' c c' w
  · rcases h with h | ⟨b, off, AM, rfl, hc, hq⟩
    · exact absurd h h0
    · rcases h' with h | ⟨b', off', BM, rfl, hc', hq'⟩
      · exact absurd h h0
      · exact eqOpN_some b off b' off' n c c' XM AM BM w hn hc hq hc' hq'
attribute [-go_sem] loadCells storeCells in
set_option maxRecDepth 100000 in
set_option maxHeartbeats 8000000 in
theorem szOpN_some (b off n c : Nat) (XM : Nat → OpD) (AM : Nat → Array Value) (z0 : Int) (hz0 : 0 ≤ z0 ∧ z0 ≤ 1048576) (w : World) (hn : (n : Int) ≤ z0) (hc : CsP w b off n AM) (hq : ∀ i, i < n → OdW w (AM i) (XM i)) :
    Calls Tryd.prog 30 #[.slice (some ⟨b, off, none⟩) n c, .int .i64 z0] w fun e w' => ∃ L : Int, e = .returned (.int .i64 L) ∧ (0 ≤ L → L ≤ 1048576 ∧ ∀ i, i < n → shO (XM i)) ∧ Below w.heap.size w w' := by
  have hd : decide (z0 - (n : Int) < 0) = false := by simp; omega
  have HC : Hid (CsP w b off n AM) := hc
  have HQ : Hid (∀ i, i < n → OdW w (AM i) (XM i)) := hq
  clear hc hq
  go_enter Tryd.func30, Tryd.ntmps30
  go_wp2_with fail
  go_loopw [1, 5] (fun l i wr => ∃ (k : Nat) (Z : Int), k ≤ n ∧ i = .int .i64 k ∧ l = .int .i64 Z ∧ 0 ≤ Z ∧ Z ≤ 1048576 ∧ (∀ i, i < k → shO (XM i)) ∧ Below w.heap.size w wr) (fun _ i _ => n - (intOf i).toNat)
  case atStart => exact ⟨0, z0 - (n : Int), Nat.zero_le _, rfl, rfl, by omega, by omega, fun i hi => absurd hi (Nat.not_lt_zero _), Below.refl _ _⟩
  case round =>
    obtain ⟨k, Z, hk, rfl, rfl, Z0, Z1, hsh, B⟩ := hrel
    have HS : Hid (∀ i, i < k → shO (XM i)) := hsh
    clear hsh hd
    by_cases hlt : k < n
    · have hx := HQ.out k hlt
      have hxs := hx.size
      have hL := (HC.out.below B).load (P := Tryd.prog) hlt hxs
      have hli : (k : Int) < (n : Int) := by omega
      have CZ := szOpW (AM k) (XM k) Z wr (hx.below B) Z0 Z1
      generalize AM k = Ak at *
      clear hx
      go_wp2_with (rw [hL])
      refine CZ.mono ?_
      rintro e w2 ⟨L, rfl, hLs, hb⟩
      clear hL CZ
      replace B := B.trans (hb.mono B.size)
      clear hb
      by_cases hneg : L < 0
      · have hdl : decide (L < 0) = true := by simp [hneg]
        clear hLs
        go_wp2_with fail
        go_ret
        exact ⟨-1, rfl, fun h => absurd h (by decide), B⟩
      · have hdl : decide (L < 0) = false := by simp; omega
        obtain ⟨l1, l2⟩ := hLs (by omega)
        have HN : Hid (∀ i, i < k + 1 → shO (XM i)) := fun i hi => by
          by_cases e : i = k
          · subst e; exact l1
          · exact HS.out i (by omega)
        clear l1 HS hLs
        go_wp2_with fail
        go_roundw
        case rel => exact ⟨k + 1, L, by omega, by go_num, rfl, by omega, l2, HN.out, B⟩
        case measure => simp [intOf]; omega
    · have hkn : k = n := by omega
      subst hkn
      have hli : ¬ (k : Int) < (k : Int) := by omega
      go_wp2_with fail
      go_ret
      exact ⟨Z, rfl, fun _ => ⟨Z1, HS.out⟩, B⟩
set_option maxHeartbeats 1000000 in
theorem szOpN_long (a : Option Addr) (n c : Nat) (z0 : Int) (hz0 : 0 ≤ z0 ∧ z0 ≤ 1048576) (w : World) (hm : n ≤ maxLen) (h : z0 < (n : Int)) :
    Calls Tryd.prog 30 #[.slice a n c, .int .i64 z0] w fun e w' => e = .returned (.int .i64 (-1)) ∧ Below w.heap.size w w' := by
  unfold maxLen at hm
  have hd : decide (z0 - (n : Int) < 0) = true := by simp; omega
  go_enter Tryd.func30, Tryd.ntmps30
  go_wp2_with fail
  go_ret
  exact ⟨rfl, Below.refl _ _⟩
set_option maxHeartbeats 1000000 in
theorem szOpN_zero (a : Option Addr) (c : Nat) (z0 : Int) (hz0 : 0 ≤ z0 ∧ z0 ≤ 1048576) (w : World) :
    Calls Tryd.prog 30 #[.slice a 0 c, .int .i64 z0] w fun e w' => e = .returned (.int .i64 z0) ∧ Below w.heap.size w w' := by
  have hd : decide (z0 < 0) = false := by simp; omega
  go_enter Tryd.func30, Tryd.ntmps30
  go_wp2_with fail
  go_loopw [1, 5] (fun l i wr => i = .int .i64 0 ∧ l = .int .i64 z0 ∧ w = wr) (fun _ i _ => 0)
  case atStart => exact ⟨rfl, by first | rfl | simp, by first | rfl | trivial⟩
  case round =>
    obtain ⟨rfl, rfl, rfl⟩ := hrel
    go_wp2_with fail
    go_ret
    exact ⟨rfl, Below.refl _ _⟩
theorem szOpN_any (a : Option Addr) (n c : Nat) (XM : Nat → OpD) (z0 : Int) (hz0 : 0 ≤ z0 ∧ z0 ≤ 1048576) (w : World) (hm : n ≤ maxLen) (h : RwP OdW w a n XM) :
    Calls Tryd.prog 30 #[.slice a n c, .int .i64 z0] w fun e w' => ∃ L : Int, e = .returned (.int .i64 L) ∧ (0 ≤ L → L ≤ 1048576 ∧ n ≤ 1048576 ∧ ∀ i, i < n → shO (XM i)) ∧ Below w.heap.size w w' := by
  by_cases hl : z0 < (n : Int)
  · exact (szOpN_long a n c z0 hz0 w hm hl).mono fun e w' ⟨h1, h2⟩ => ⟨-1, h1, fun h => absurd h (by decide), h2⟩
  · rcases h with rfl | ⟨b, off, AM, rfl, hc, hq⟩
    · exact (szOpN_zero a c z0 hz0 w).mono fun e w' ⟨h1, h2⟩ => ⟨z0, h1, fun _ => ⟨hz0.2, by omega, fun i hi => absurd hi (Nat.not_lt_zero _)⟩, h2⟩
    · exact (szOpN_some b off n c XM AM z0 hz0 w (by omega) hc hq).mono fun e w' ⟨L, h1, h2, h3⟩ => ⟨L, h1, fun h => ⟨(h2 h).1, by omega, (h2 h).2⟩, h3⟩

end Go.Proofs.YtddjiamollfplaaDoor
