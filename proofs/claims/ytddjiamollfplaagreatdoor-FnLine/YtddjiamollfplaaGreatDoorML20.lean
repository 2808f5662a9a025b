/- The line of an op: its numbers (the specification). Rows of ops. ScriptText (the specification). -/
import Derived.Test.YtddjiamollfplaaGreatDoorML6
import Derived.Test.YtddjiamollfplaaGreatDoorML18
namespace Go.Proofs.YtddjiamollfplaaGreatDoor
open Go.RowKit
set_option linter.unusedVariables false
theorem tdS_size : ∀ (f K : Nat) (o : ByteArray), (tdS f K o).size ≤ o.size + f
 | 0, _, o => by simp [tdS]
 | f + 1, K, o => by
  by_cases h : K = 0
  ·subst h; rw [tdS_end]; omega
  ·rw [tdS_go h]
   have q := tdS_size f (K / 10) (strOfNums [48 + (K : Int) % 10] ++ o)
   rw [ByteArray.size_append, strOfNums_size] at q
   simp at q
   omega
theorem txI_size (n : Int) : (txI n).size ≤ 21 := by
 have q := tdS_size 20 n.natAbs ⟨#[]⟩
 have e0 : (⟨#[]⟩ : ByteArray).size = 0 := rfl
 have e1 : (⟨#[45]⟩ : ByteArray).size = 1 := rfl
 have e2 : (⟨#[48]⟩ : ByteArray).size = 1 := rfl
 unfold txI dgs
 split
 ·omega
 ·split
  ·rw [ByteArray.size_append]; omega
  ·omega
theorem hexO_size (s : ByteArray) : (hexO s).size ≤ 128 := by
 unfold hexO
 split
 ·show (0 : Nat) ≤ 128; omega
 ·split
  ·show (1 : Nat) ≤ 128; omega
  ·rw [strOfNums_size, hxL_len]; omega
def lnL (L : List Int) : Nat → ByteArray → ByteArray
 | 0, o => o
 | i + 1, o => (lnL L i o ++ ⟨#[32]⟩) ++ txI (gI L i)
theorem lnL_size (L : List Int) (o : ByteArray) : ∀ i, (lnL L i o).size ≤ o.size + 22 * i
 | 0 => by simp [lnL]
 | i + 1 => by
  have q := lnL_size L o i
  have t := txI_size (gI L i)
  have e1 : (⟨#[32]⟩ : ByteArray).size = 1 := rfl
  rw [lnL, ByteArray.size_append, ByteArray.size_append]
  omega
def olB (L : List Int) (k : Int) : ByteArray := lnL L L.length (nmK k)
def olO (k nd tt a b : Int) (tx : ByteArray) (n : Nat) (f : Nat → Int) : ByteArray :=
 if opB k nd tt a b tx n f then (if opT k then (olB (opN k nd tt a b n f) k ++ ⟨#[32]⟩) ++ hexO tx else olB (opN k nd tt a b n f) k) else ⟨#[]⟩
set_option maxHeartbeats 1000000 in
theorem specNums_any (k nd tt a b : Int) (tx : ByteArray) (p : Option Addr) (n c : Nat) (f : Nat → Int) (w : World) (hn : n ≤ 64) (hs : LsO w p n c f) :
 Calls Tryz.prog 37 #[.agg #[.int .i64 k, .int .i64 nd, .int .i64 tt, .int .i64 a, .int .i64 b, .string tx, .slice p n c]] w fun e w' => ∃ v, e = .returned (.tuple #[v, .bool (opT k)]) ∧ w'.ownsRow w.heap.size 3 1 v (opN k nd tt a b n f).length (irow (opN k nd tt a b n f)) ∧ Below w.heap.size w w' := by
 by_cases h1 : k = 1
 ·subst h1; exact specNums_1 nd tt a b tx p n c f w hn hs
 by_cases h4 : k = 4
 ·subst h4; exact specNums_4 nd tt a b tx p n c w
 by_cases h5 : k = 5
 ·subst h5; exact specNums_5 nd tt a b tx p n c w
 by_cases h9 : k = 9
 ·subst h9; exact specNums_9 nd tt a b tx p n c w
 by_cases h10 : k = 10
 ·subst h10; exact specNums_10 nd tt a b tx p n c w
 by_cases h11 : k = 11
 ·subst h11; exact specNums_11 nd tt a b tx p n c w
 by_cases h12 : k = 12
 ·subst h12; exact specNums_12 nd tt a b tx p n c w
 by_cases h13 : k = 13
 ·subst h13; exact specNums_13 nd tt a b tx p n c w
 by_cases h14 : k = 14
 ·subst h14; exact specNums_14 nd tt a b tx p n c w
 have e1 : opT k = false := by unfold opT; simp; omega
 have e2 : opN k nd tt a b n f = [nd] := by unfold opN; simp only [h1, h4, h5, h9, h10, h11, h12, h13, h14, if_false]
 rw [e1, e2]
 exact specNums_e k nd tt a b tx p n c w ⟨h1, h4, h5, h9, h10, h11, h12, h13, h14⟩
theorem upB_of {x m : Int} (h : upB x m = true) : 0 ≤ x ∧ x ≤ m := by
 unfold upB at h
 rw [Bool.and_eq_true] at h
 exact ⟨of_decide_eq_true h.1, of_decide_eq_true h.2⟩
theorem ol_facts {k nd tt a b : Int} {tx : ByteArray} {n : Nat} {f : Nat → Int} (h : opB k nd tt a b tx n f = true) :
 n ≤ 8 ∧ tx.size ≤ 64 ∧ (opN k nd tt a b n f).length ≤ 9 ∧ ∀ i, -1000000 ≤ gI (opN k nd tt a b n f) i ∧ gI (opN k nd tt a b n f) i ≤ 1000000 := by
 unfold opB hdB at h
 simp only [Bool.and_eq_true] at h
 obtain ⟨⟨_, ⟨⟨⟨⟨⟨h1, h2⟩, _⟩, h3⟩, h4⟩, h5⟩, h6⟩, h7⟩ := h
 have q1 := upB_of h1
 have q2 := upB_of h2
 have q3 := upB_of h3
 have q4 := upB_of h4
 have q5 := of_decide_eq_true h5
 have q6 := of_decide_eq_true h6
 have q7 := of_decide_eq_true h7
 have b1 : bdN k ≤ 7 := by unfold bdN; split <;> omega
 have b2 : bdT k ≤ 7 := by unfold bdT; split <;> omega
 have b3 : bdA k ≤ 1000000 := by unfold bdA; split <;> (try split) <;> omega
 have b4 : bdB k ≤ 1000000 := by unfold bdB; split <;> (try split) <;> omega
 have b5 : bdX k ≤ 64 := by unfold bdX; split <;> (try split) <;> omega
 have b6 : bdL k ≤ 8 := by unfold bdL; split <;> omega
 have hall : ∀ x ∈ opN k nd tt a b n f, -1000000 ≤ x ∧ x ≤ 1000000 := by
  intro x hx
  unfold opN at hx
  split at hx
  ·rcases List.mem_cons.1 hx with rfl | hx
   ·omega
   ·obtain ⟨i, hi, rfl⟩ := List.mem_map.1 hx
    exact q7 i (List.mem_range.1 hi)
  ·repeat' split at hx
   all_goals (simp only [List.mem_cons, List.not_mem_nil, or_false] at hx; omega)
 refine ⟨by omega, by omega, ?_, fun i => ?_⟩
 ·unfold opN
  repeat' split
  all_goals simp
  omega
 ·by_cases hi : i < (opN k nd tt a b n f).length
  ·rw [gI, List.getD_eq_getElem?_getD, List.getElem?_eq_getElem hi]
   exact hall _ (List.getElem_mem hi)
  ·rw [gI, List.getD_eq_getElem?_getD, List.getElem?_eq_none (by omega)]
   show (-1000000 : Int) ≤ 0 ∧ (0 : Int) ≤ 1000000
   omega
theorem LsO.src {w : World} {p : Option Addr} {n c : Nat} {f : Nat → Int} (h : LsO w p n c f) : SrcC w p n (itG f) := by
 rcases h with h | ⟨b, off, e, h | h⟩
 ·exact .inl h.2.1
 ·exact .inl h
 ·exact .inr ⟨b, off, e, h⟩
theorem own_cellX {w : World} {base : Nat} {v : Value} {L : List Int} (h : w.ownsRow base 3 1 v L.length (irow L)) : (v = .slice none 0 0 ∧ L.length = 0) ∨ ∃ g cap, v = .slice (some ⟨g, 0, none⟩) L.length cap ∧ ∀ i, i < L.length → w.cell? ⟨g, i, none⟩ = some (.int .i64 (gI L i)) := by
 rcases h.2 with ⟨rfl, h0⟩ | ⟨g, cap, cur, rfl, _⟩
 ·exact .inl ⟨rfl, h0⟩
 ·refine .inr ⟨g, cap, rfl, fun i hi => ?_⟩
  rw [World.ownsRow.cellAt h i (by omega), irow_mapX, List.getElem?_map, List.getElem?_eq_getElem hi, gI, List.getD_eq_getElem?_getD, List.getElem?_eq_getElem hi]
  rfl
end Go.Proofs.YtddjiamollfplaaGreatDoor
namespace Go.Proofs.YtddjiamollfplaaGreatDoor
open Go.RowKit
set_option linter.unusedVariables false

structure OpD where
 k : Int
 nd : Int
 tt : Int
 a : Int
 b : Int
 tx : ByteArray
 n : Nat
 f : Nat → Int
def opV (x : OpD) (p : Option Addr) (c : Nat) : Array Value := #[.int .i64 x.k, .int .i64 x.nd, .int .i64 x.tt, .int .i64 x.a, .int .i64 x.b, .string x.tx, .slice p x.n c]
theorem opV_one (x : OpD) (p : Option Addr) (c : Nat) : ∀ u ∈ (opV x p c).toList, u.oneCell' = true := by
 intro u hu
 simp only [opV, List.mem_cons, List.not_mem_nil, or_false] at hu
 rcases hu with h | h | h | h | h | h | h <;> (subst h; rfl)
def OdW (w : World) (A : Array Value) (x : OpD) : Prop := ∃ p c, A = opV x p c ∧ (x.tx.size ≤ maxLen ∧ x.n ≤ maxLen) ∧ SrcC w p x.n (itG x.f)
def OdS (w : World) (A : Array Value) (x : OpD) : Prop := ∃ p c, A = opV x p c ∧ (x.tx.size ≤ maxLen ∧ x.n ≤ maxLen) ∧ LsO w p x.n c x.f
def OdO (w : World) (l : Nat) (A : Array Value) (x : OpD) : Prop := ∃ j, l ≤ j ∧ A = opV x (some ⟨j, 0, none⟩) x.n ∧ (x.tx.size ≤ maxLen ∧ x.n ≤ maxLen) ∧ Cs w j 0 x.n (itG x.f)
theorem OdW.size {w : World} {A : Array Value} {x : OpD} (h : OdW w A x) : A.size = 7 := by
 obtain ⟨p, c, e, _⟩ := h
 rw [e]; rfl
theorem OdW.below {w w' : World} {A : Array Value} {x : OpD} (h : OdW w A x) (hb : Below w.heap.size w w') : OdW w' A x := by
 obtain ⟨p, c, e, hl, h1⟩ := h
 exact ⟨p, c, e, hl, h1.below hb⟩
theorem OdS.below {w w' : World} {A : Array Value} {x : OpD} (h : OdS w A x) (hb : Below w.heap.size w w') : OdS w' A x := by
 obtain ⟨p, c, e, hl, h1⟩ := h
 exact ⟨p, c, e, hl, h1.below hb⟩
theorem OdS.weak {w : World} {A : Array Value} {x : OpD} (h : OdS w A x) : OdW w A x := by
 obtain ⟨p, c, e, hl, h1⟩ := h
 exact ⟨p, c, e, hl, h1.src⟩
theorem OdS.size {w : World} {A : Array Value} {x : OpD} (h : OdS w A x) : A.size = 7 := h.weak.size
theorem OdO.below {w w' : World} {l : Nat} {A : Array Value} {x : OpD} (h : OdO w l A x) (hb : Below w.heap.size w w') : OdO w' l A x := by
 obtain ⟨j, hj, e, hl, h1⟩ := h
 exact ⟨j, hj, e, hl, h1.below hb h1.1⟩
theorem OdO.low {w : World} {l l' : Nat} {A : Array Value} {x : OpD} (h : OdO w l A x) (hl : l' ≤ l) : OdO w l' A x := by
 obtain ⟨j, hj, e, hs, h1⟩ := h
 exact ⟨j, Nat.le_trans hl hj, e, hs, h1⟩
theorem OdO.src {w : World} {l : Nat} {A : Array Value} {x : OpD} (h : OdO w l A x) : OdS w A x := by
 obtain ⟨j, hj, e, hs, h1⟩ := h
 exact ⟨_, _, e, hs, .inr ⟨_, _, rfl, .inr h1⟩⟩
theorem OdO.size {w : World} {l : Nat} {A : Array Value} {x : OpD} (h : OdO w l A x) : A.size = 7 := h.src.size
theorem putA_cellO (k : Nat) (p : Addr) (hp : p.block ≠ k) : ∀ (us : List Value) (w : World) (o : Nat), (putA w k o us).cell? p = w.cell? p
 | [], _, _ => rfl
 | u :: us, w, o => by
  rw [putA, putA_cellO k p hp us]
  exact World.cell?_setCell_other _ _ _ _ (fun e => hp (by rw [← e]))
theorem OdO.put {w : World} {l g o : Nat} {A : Array Value} {x : OpD} (us : List Value) (h : OdO w l A x) (hg : g + 1 ≤ l) : OdO (putA w g o us) l A x := by
 obtain ⟨j, hj, e, hs, h1⟩ := h
 refine ⟨j, hj, e, hs, by rw [putA_size]; exact h1.1, fun i hi => ?_⟩
 rw [putA_cellO g _ (by show j ≠ g; omega)]
 exact h1.2 i hi
def CsP (w : World) (b off n : Nat) (AM : Nat → Array Value) : Prop := b < w.heap.size ∧ ∀ i, i < n → ∀ j u, (AM i)[j]? = some u → w.cell? ⟨b, off + i * 7 + j, none⟩ = some u
theorem CsP.below {w w' : World} {b off n : Nat} {AM : Nat → Array Value} (h : CsP w b off n AM) (hb : Below w.heap.size w w') : CsP w' b off n AM :=
 ⟨Nat.lt_of_lt_of_le h.1 hb.size, fun i hi j u hj => by rw [hb.cell (p := ⟨b, off + i * 7 + j, none⟩) h.1]; exact h.2 i hi j u hj⟩
theorem CsP.load {P : Program} {w : World} {b off n i : Nat} {AM : Nat → Array Value} (h : CsP w b off n AM) (hi : i < n) (hs : (AM i).size = 7) : (loadCells ⟨b, off + i * 7, none⟩ 7).run P w = .ok (AM i) w := by
 have e := run_loadCells_list (P := P) w ⟨b, off + i * 7, none⟩ (AM i).toList (fun j v hj => by rw [add_at]; exact h.2 i hi j v (by simpa using hj))
 have e2 : (AM i).toList.length = 7 := by simpa using hs
 rw [e2, Array.toArray_toList] at e
 exact e
def NvO (w : World) (g n k : Nat) (XM : Nat → OpD) : Prop := ∃ (A : Array Value) (AM : Nat → Array Value), Bo w g A ∧ A.size = n * 7 ∧ (∀ i, i < k → ∀ j u, (AM i)[j]? = some u → A[i * 7 + j]? = some u) ∧ ∀ i, i < k → OdO w (g + 1) (AM i) (XM i)
theorem NvO.below {w w' : World} {g n k : Nat} {XM : Nat → OpD} (h : NvO w g n k XM) (hb : Below w.heap.size w w') : NvO w' g n k XM := by
 obtain ⟨A, AM, h1, h2, h3, h4⟩ := h
 exact ⟨A, AM, h1.below hb, h2, h3, fun i hi => (h4 i hi).below hb⟩
theorem NvO.put {w : World} {g n k l : Nat} {XM : Nat → OpD} {R : Array Value} (h : NvO w g n k XM) (hR : OdO w l R (XM k)) (hl : g + 1 ≤ l) (hk : k < n) : NvO (putA w g (k * 7) R.toList) g n (k + 1) XM := by
 obtain ⟨A, AM, h1, h2, h3, h4⟩ := h
 have hs := hR.size
 refine ⟨spl A (k * 7) R.toList, fun i => if i = k then R else AM i, Bo.put R.toList (k * 7) h1, by rw [spl_size, h2], fun i hi j u hj => ?_, fun i hi => ?_⟩
 ·rw [spl_get _ _ _ _ (by simp [hs]; omega)]
  have hj : (if i = k then R else AM i)[j]? = some u := hj
  by_cases e : i = k
  ·subst e
   rw [if_pos rfl] at hj
   have hj7 : j < 7 := by have := (Array.getElem?_eq_some_iff.1 hj).1; omega
   rw [if_pos (by simp [hs]; omega), Array.getElem?_toList, show i * 7 + j - i * 7 = j by omega]
   exact hj
  ·rw [if_neg e] at hj
   have hj7 : j < 7 := by have := (Array.getElem?_eq_some_iff.1 hj).1; have := (h4 i (by omega)).size; omega
   rw [if_neg (by omega)]
   exact h3 i (by omega) j u hj
 ·show OdO _ _ (if i = k then R else AM i) (XM i)
  by_cases e : i = k
  ·subst e
   rw [if_pos rfl]
   exact (hR.low hl).put R.toList (Nat.le_refl _)
  ·rw [if_neg e]
   exact (h4 i (by omega)).put R.toList (Nat.le_refl _)
def rowObjOp (n : Nat) : Obj := .cells (madeCells #[.int .i64 0, .int .i64 0, .int .i64 0, .int .i64 0, .int .i64 0, .string ⟨#[]⟩, .slice none 0 0] (n * 7)) 26
theorem NvO.new (w : World) (n : Nat) (XM : Nat → OpD) : NvO (w.alloc (rowObjOp n)) w.heap.size n 0 XM :=
 ⟨_, fun _ => #[], Bo.new w _ 26, size_madeCells _ _, fun i hi => absurd hi (Nat.not_lt_zero _), fun i hi => absurd hi (Nat.not_lt_zero _)⟩
end Go.Proofs.YtddjiamollfplaaGreatDoor
namespace Go.Proofs.YtddjiamollfplaaGreatDoor
open Go.RowKit
set_option linter.unusedVariables false

def oL (x : OpD) : ByteArray := olO x.k x.nd x.tt x.a x.b x.tx x.n x.f
def oB (x : OpD) : Bool := opB x.k x.nd x.tt x.a x.b x.tx x.n x.f
theorem oL_size (x : OpD) : (oL x).size ≤ 400 := by
 have e1 : (⟨#[32]⟩ : ByteArray).size = 1 := rfl
 have e0 : (⟨#[]⟩ : ByteArray).size = 0 := rfl
 have hx := hexO_size x.tx
 have hn := nmK_size x.k
 unfold oL olO
 split
 ·rename_i h
  have hl := (ol_facts h).2.2.1
  have q := lnL_size (opN x.k x.nd x.tt x.a x.b x.n x.f) (nmK x.k) (opN x.k x.nd x.tt x.a x.b x.n x.f).length
  unfold olB
  split
  ·rw [ByteArray.size_append, ByteArray.size_append]; omega
  ·omega
 ·omega
end Go.Proofs.YtddjiamollfplaaGreatDoor
