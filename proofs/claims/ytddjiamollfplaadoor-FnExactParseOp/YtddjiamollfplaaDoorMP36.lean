/- Rows of ops. ScriptText (the specification). -/
import Derived.Test.YtddjiamollfplaaDoorMP30
namespace Go.Proofs.YtddjiamollfplaaDoor
open Go.RowKit
set_option linter.unusedVariables false

structure OpD where
 k : Int
 nd : Int
 tt : Int
 a : Int
 b : Int
 tx : ByteArray
 n : Nat
 f : Nat → Int
def opV (x : OpD) (p : Option Addr) (c : Nat) : Array Value := #[.int .i64 x.k, .int .i64 x.nd, .int .i64 x.tt, .int .i64 x.a, .int .i64 x.b, .string x.tx, .slice p x.n c]
theorem opV_one (x : OpD) (p : Option Addr) (c : Nat) : ∀ u ∈ (opV x p c).toList, u.oneCell' = true := by
 intro u hu
 simp only [opV, List.mem_cons, List.not_mem_nil, or_false] at hu
 rcases hu with h | h | h | h | h | h | h <;> (subst h; rfl)
def OdW (w : World) (A : Array Value) (x : OpD) : Prop := ∃ p c, A = opV x p c ∧ (x.tx.size ≤ maxLen ∧ x.n ≤ maxLen) ∧ SrcC w p x.n (itG x.f)
def OdS (w : World) (A : Array Value) (x : OpD) : Prop := ∃ p c, A = opV x p c ∧ (x.tx.size ≤ maxLen ∧ x.n ≤ maxLen) ∧ LsO w p x.n c x.f
def OdO (w : World) (l : Nat) (A : Array Value) (x : OpD) : Prop := ∃ j, l ≤ j ∧ A = opV x (some ⟨j, 0, none⟩) x.n ∧ (x.tx.size ≤ maxLen ∧ x.n ≤ maxLen) ∧ Cs w j 0 x.n (itG x.f)
theorem OdW.size {w : World} {A : Array Value} {x : OpD} (h : OdW w A x) : A.size = 7 := by
 obtain ⟨p, c, e, _⟩ := h
 rw [e]; rfl
theorem OdW.below {w w' : World} {A : Array Value} {x : OpD} (h : OdW w A x) (hb : Below w.heap.size w w') : OdW w' A x := by
 obtain ⟨p, c, e, hl, h1⟩ := h
 exact ⟨p, c, e, hl, h1.below hb⟩
theorem OdS.below {w w' : World} {A : Array Value} {x : OpD} (h : OdS w A x) (hb : Below w.heap.size w w') : OdS w' A x := by
 obtain ⟨p, c, e, hl, h1⟩ := h
 exact ⟨p, c, e, hl, h1.below hb⟩
theorem OdS.weak {w : World} {A : Array Value} {x : OpD} (h : OdS w A x) : OdW w A x := by
 obtain ⟨p, c, e, hl, h1⟩ := h
 exact ⟨p, c, e, hl, h1.src⟩
theorem OdS.size {w : World} {A : Array Value} {x : OpD} (h : OdS w A x) : A.size = 7 := h.weak.size
theorem OdO.below {w w' : World} {l : Nat} {A : Array Value} {x : OpD} (h : OdO w l A x) (hb : Below w.heap.size w w') : OdO w' l A x := by
 obtain ⟨j, hj, e, hl, h1⟩ := h
 exact ⟨j, hj, e, hl, h1.below hb h1.1⟩
theorem OdO.low {w : World} {l l' : Nat} {A : Array Value} {x : OpD} (h : OdO w l A x) (hl : l' ≤ l) : OdO w l' A x := by
 obtain ⟨j, hj, e, hs, h1⟩ := h
 exact ⟨j, Nat.le_trans hl hj, e, hs, h1⟩
theorem OdO.src {w : World} {l : Nat} {A : Array Value} {x : OpD} (h : OdO w l A x) : OdS w A x := by
 obtain ⟨j, hj, e, hs, h1⟩ := h
 exact ⟨_, _, e, hs, .inr ⟨_, _, rfl, .inr h1⟩⟩
theorem OdO.size {w : World} {l : Nat} {A : Array Value} {x : OpD} (h : OdO w l A x) : A.size = 7 := h.src.size
theorem putA_cellO (k : Nat) (p : Addr) (hp : p.block ≠ k) : ∀ (us : List Value) (w : World) (o : Nat), (putA w k o us).cell? p = w.cell? p
 | [], _, _ => rfl
 | u :: us, w, o => by
  rw [putA, putA_cellO k p hp us]
  exact World.cell?_setCell_other _ _ _ _ (fun e => hp (by rw [← e]))
theorem OdO.put {w : World} {l g o : Nat} {A : Array Value} {x : OpD} (us : List Value) (h : OdO w l A x) (hg : g + 1 ≤ l) : OdO (putA w g o us) l A x := by
 obtain ⟨j, hj, e, hs, h1⟩ := h
 refine ⟨j, hj, e, hs, by rw [putA_size]; exact h1.1, fun i hi => ?_⟩
 rw [putA_cellO g _ (by show j ≠ g; omega)]
 exact h1.2 i hi
def CsP (w : World) (b off n : Nat) (AM : Nat → Array Value) : Prop := b < w.heap.size ∧ ∀ i, i < n → ∀ j u, (AM i)[j]? = some u → w.cell? ⟨b, off + i * 7 + j, none⟩ = some u
theorem CsP.below {w w' : World} {b off n : Nat} {AM : Nat → Array Value} (h : CsP w b off n AM) (hb : Below w.heap.size w w') : CsP w' b off n AM :=
 ⟨Nat.lt_of_lt_of_le h.1 hb.size, fun i hi j u hj => by rw [hb.cell (p := ⟨b, off + i * 7 + j, none⟩) h.1]; exact h.2 i hi j u hj⟩
theorem CsP.load {P : Program} {w : World} {b off n i : Nat} {AM : Nat → Array Value} (h : CsP w b off n AM) (hi : i < n) (hs : (AM i).size = 7) : (loadCells ⟨b, off + i * 7, none⟩ 7).run P w = .ok (AM i) w := by
 have e := run_loadCells_list (P := P) w ⟨b, off + i * 7, none⟩ (AM i).toList (fun j v hj => by rw [add_at]; exact h.2 i hi j v (by simpa using hj))
 have e2 : (AM i).toList.length = 7 := by simpa using hs
 rw [e2, Array.toArray_toList] at e
 exact e
def NvO (w : World) (g n k : Nat) (XM : Nat → OpD) : Prop := ∃ (A : Array Value) (AM : Nat → Array Value), Bo w g A ∧ A.size = n * 7 ∧ (∀ i, i < k → ∀ j u, (AM i)[j]? = some u → A[i * 7 + j]? = some u) ∧ ∀ i, i < k → OdO w (g + 1) (AM i) (XM i)
theorem NvO.below {w w' : World} {g n k : Nat} {XM : Nat → OpD} (h : NvO w g n k XM) (hb : Below w.heap.size w w') : NvO w' g n k XM := by
 obtain ⟨A, AM, h1, h2, h3, h4⟩ := h
 exact ⟨A, AM, h1.below hb, h2, h3, fun i hi => (h4 i hi).below hb⟩
theorem NvO.put {w : World} {g n k l : Nat} {XM : Nat → OpD} {R : Array Value} (h : NvO w g n k XM) (hR : OdO w l R (XM k)) (hl : g + 1 ≤ l) (hk : k < n) : NvO (putA w g (k * 7) R.toList) g n (k + 1) XM := by
 obtain ⟨A, AM, h1, h2, h3, h4⟩ := h
 have hs := hR.size
 refine ⟨spl A (k * 7) R.toList, fun i => if i = k then R else AM i, Bo.put R.toList (k * 7) h1, by rw [spl_size, h2], fun i hi j u hj => ?_, fun i hi => ?_⟩
 ·rw [spl_get _ _ _ _ (by simp [hs]; omega)]
  have hj : (if i = k then R else AM i)[j]? = some u := hj
  by_cases e : i = k
  ·subst e
   rw [if_pos rfl] at hj
   have hj7 : j < 7 := by have := (Array.getElem?_eq_some_iff.1 hj).1; omega
   rw [if_pos (by simp [hs]; omega), Array.getElem?_toList, show i * 7 + j - i * 7 = j by omega]
   exact hj
  ·rw [if_neg e] at hj
   have hj7 : j < 7 := by have := (Array.getElem?_eq_some_iff.1 hj).1; have := (h4 i (by omega)).size; omega
   rw [if_neg (by omega)]
   exact h3 i (by omega) j u hj
 ·show OdO _ _ (if i = k then R else AM i) (XM i)
  by_cases e : i = k
  ·subst e
   rw [if_pos rfl]
   exact (hR.low hl).put R.toList (Nat.le_refl _)
  ·rw [if_neg e]
   exact (h4 i (by omega)).put R.toList (Nat.le_refl _)
def rowObjOp (n : Nat) : Obj := .cells (madeCells #[.int .i64 0, .int .i64 0, .int .i64 0, .int .i64 0, .int .i64 0, .string ⟨#[]⟩, .slice none 0 0] (n * 7)) 39
theorem NvO.new (w : World) (n : Nat) (XM : Nat → OpD) : NvO (w.alloc (rowObjOp n)) w.heap.size n 0 XM :=
 ⟨_, fun _ => #[], Bo.new w _ 39, size_madeCells _ _, fun i hi => absurd hi (Nat.not_lt_zero _), fun i hi => absurd hi (Nat.not_lt_zero _)⟩
end Go.Proofs.YtddjiamollfplaaDoor
namespace Go.Proofs.YtddjiamollfplaaDoor
open Go.RowKit
set_option linter.unusedVariables false

def oB (x : OpD) : Bool := opB x.k x.nd x.tt x.a x.b x.tx x.n x.f
end Go.Proofs.YtddjiamollfplaaDoor
