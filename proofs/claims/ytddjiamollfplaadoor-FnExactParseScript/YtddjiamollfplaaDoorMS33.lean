/- Rows of ops. -/
import Derived.Test.YtddjiamollfplaaDoorMS0
import Derived.Test.YtddjiamollfplaaDoorMS28
import Derived.Test.YtddjiamollfplaaDoorMS32
namespace Go.Proofs.YtddjiamollfplaaDoor
open Go.RowKit
set_option linter.unusedVariables false

structure OpD where
 k : Int
 nd : Int
 tt : Int
 a : Int
 b : Int
 tx : ByteArray
 n : Nat
 f : Nat → Int
def opV (x : OpD) (p : Option Addr) (c : Nat) : Array Value := #[.int .i64 x.k, .int .i64 x.nd, .int .i64 x.tt, .int .i64 x.a, .int .i64 x.b, .string x.tx, .slice p x.n c]
theorem opV_one (x : OpD) (p : Option Addr) (c : Nat) : ∀ u ∈ (opV x p c).toList, u.oneCell' = true := by
 intro u hu
 simp only [opV, List.mem_cons, List.not_mem_nil, or_false] at hu
 rcases hu with h | h | h | h | h | h | h <;> (subst h; rfl)
def OdW (w : World) (A : Array Value) (x : OpD) : Prop := ∃ p c, A = opV x p c ∧ (x.tx.size ≤ maxLen ∧ x.n ≤ maxLen) ∧ SrcC w p x.n (itG x.f)
def OdS (w : World) (A : Array Value) (x : OpD) : Prop := ∃ p c, A = opV x p c ∧ (x.tx.size ≤ maxLen ∧ x.n ≤ maxLen) ∧ LsO w p x.n c x.f
def OdO (w : World) (l : Nat) (A : Array Value) (x : OpD) : Prop := ∃ j, l ≤ j ∧ A = opV x (some ⟨j, 0, none⟩) x.n ∧ (x.tx.size ≤ maxLen ∧ x.n ≤ maxLen) ∧ Cs w j 0 x.n (itG x.f)
theorem OdW.size {w : World} {A : Array Value} {x : OpD} (h : OdW w A x) : A.size = 7 := by
 obtain ⟨p, c, e, _⟩ := h
 rw [e]; rfl
theorem OdW.below {w w' : World} {A : Array Value} {x : OpD} (h : OdW w A x) (hb : Below w.heap.size w w') : OdW w' A x := by
 obtain ⟨p, c, e, hl, h1⟩ := h
 exact ⟨p, c, e, hl, h1.below hb⟩
theorem OdS.below {w w' : World} {A : Array Value} {x : OpD} (h : OdS w A x) (hb : Below w.heap.size w w') : OdS w' A x := by
 obtain ⟨p, c, e, hl, h1⟩ := h
 exact ⟨p, c, e, hl, h1.below hb⟩
theorem OdS.weak {w : World} {A : Array Value} {x : OpD} (h : OdS w A x) : OdW w A x := by
 obtain ⟨p, c, e, hl, h1⟩ := h
 exact ⟨p, c, e, hl, h1.src⟩
theorem OdS.size {w : World} {A : Array Value} {x : OpD} (h : OdS w A x) : A.size = 7 := h.weak.size
theorem OdO.below {w w' : World} {l : Nat} {A : Array Value} {x : OpD} (h : OdO w l A x) (hb : Below w.heap.size w w') : OdO w' l A x := by
 obtain ⟨j, hj, e, hl, h1⟩ := h
 exact ⟨j, hj, e, hl, h1.below hb h1.1⟩
theorem OdO.low {w : World} {l l' : Nat} {A : Array Value} {x : OpD} (h : OdO w l A x) (hl : l' ≤ l) : OdO w l' A x := by
 obtain ⟨j, hj, e, hs, h1⟩ := h
 exact ⟨j, Nat.le_trans hl hj, e, hs, h1⟩
theorem OdO.src {w : World} {l : Nat} {A : Array Value} {x : OpD} (h : OdO w l A x) : OdS w A x := by
 obtain ⟨j, hj, e, hs, h1⟩ := h
 exact ⟨_, _, e, hs, .inr ⟨_, _, rfl, .inr h1⟩⟩
theorem OdO.size {w : World} {l : Nat} {A : Array Value} {x : OpD} (h : OdO w l A x) : A.size = 7 := h.src.size
theorem putA_cellO (k : Nat) (p : Addr) (hp : p.block ≠ k) : ∀ (us : List Value) (w : World) (o : Nat), (putA w k o us).cell? p = w.cell? p
 | [], _, _ => rfl
 | u :: us, w, o => by
  rw [putA, putA_cellO k p hp us]
  exact World.cell?_setCell_other _ _ _ _ (fun e => hp (by rw [← e]))
theorem OdO.put {w : World} {l g o : Nat} {A : Array Value} {x : OpD} (us : List Value) (h : OdO w l A x) (hg : g + 1 ≤ l) : OdO (putA w g o us) l A x := by
 obtain ⟨j, hj, e, hs, h1⟩ := h
 refine ⟨j, hj, e, hs, by rw [putA_size]; exact h1.1, fun i hi => ?_⟩
 rw [putA_cellO g _ (by show j ≠ g; omega)]
 exact h1.2 i hi
def CsP (w : World) (b off n : Nat) (AM : Nat → Array Value) : Prop := b < w.heap.size ∧ ∀ i, i < n → ∀ j u, (AM i)[j]? = some u → w.cell? ⟨b, off + i * 7 + j, none⟩ = some u
theorem CsP.below {w w' : World} {b off n : Nat} {AM : Nat → Array Value} (h : CsP w b off n AM) (hb : Below w.heap.size w w') : CsP w' b off n AM :=
 ⟨Nat.lt_of_lt_of_le h.1 hb.size, fun i hi j u hj => by rw [hb.cell (p := ⟨b, off + i * 7 + j, none⟩) h.1]; exact h.2 i hi j u hj⟩
theorem CsP.load {P : Program} {w : World} {b off n i : Nat} {AM : Nat → Array Value} (h : CsP w b off n AM) (hi : i < n) (hs : (AM i).size = 7) : (loadCells ⟨b, off + i * 7, none⟩ 7).run P w = .ok (AM i) w := by
 have e := run_loadCells_list (P := P) w ⟨b, off + i * 7, none⟩ (AM i).toList (fun j v hj => by rw [add_at]; exact h.2 i hi j v (by simpa using hj))
 have e2 : (AM i).toList.length = 7 := by simpa using hs
 rw [e2, Array.toArray_toList] at e
 exact e
def RwP (Q : World → Array Value → OpD → Prop) (w : World) (a : Option Addr) (n : Nat) (XM : Nat → OpD) : Prop := n = 0 ∨ ∃ b off AM, a = some ⟨b, off, none⟩ ∧ CsP w b off n AM ∧ ∀ i, i < n → Q w (AM i) (XM i)
theorem RwP.belowW {w w' : World} {a : Option Addr} {n : Nat} {XM : Nat → OpD} (h : RwP OdW w a n XM) (hb : Below w.heap.size w w') : RwP OdW w' a n XM := by
 rcases h with h | ⟨b, off, AM, e, hc, hq⟩
 ·exact .inl h
 ·exact .inr ⟨b, off, AM, e, hc.below hb, fun i hi => (hq i hi).below hb⟩
theorem eqOpW (A A' : Array Value) (x : OpD) (w : World) (h : OdW w A x) (h' : OdW w A' x) :
 Calls Tryd.prog 25 #[.agg A, .agg A'] w fun e w' => e = .returned (.bool true) ∧ Below w.heap.size w w' := by
 obtain ⟨p, c, rfl, hl, h1⟩ := h
 obtain ⟨p', c', rfl, hl', h1'⟩ := h'
 exact eqOp_same x.k x.nd x.tt x.a x.b x.tx p p' x.n c c' x.f w hl.2 h1 h1'
def NvO (w : World) (g n k : Nat) (XM : Nat → OpD) : Prop := ∃ (A : Array Value) (AM : Nat → Array Value), Bo w g A ∧ A.size = n * 7 ∧ (∀ i, i < k → ∀ j u, (AM i)[j]? = some u → A[i * 7 + j]? = some u) ∧ ∀ i, i < k → OdO w (g + 1) (AM i) (XM i)
theorem NvO.below {w w' : World} {g n k : Nat} {XM : Nat → OpD} (h : NvO w g n k XM) (hb : Below w.heap.size w w') : NvO w' g n k XM := by
 obtain ⟨A, AM, h1, h2, h3, h4⟩ := h
 exact ⟨A, AM, h1.below hb, h2, h3, fun i hi => (h4 i hi).below hb⟩
theorem NvO.put {w : World} {g n k l : Nat} {XM : Nat → OpD} {R : Array Value} (h : NvO w g n k XM) (hR : OdO w l R (XM k)) (hl : g + 1 ≤ l) (hk : k < n) : NvO (putA w g (k * 7) R.toList) g n (k + 1) XM := by
 obtain ⟨A, AM, h1, h2, h3, h4⟩ := h
 have hs := hR.size
 refine ⟨spl A (k * 7) R.toList, fun i => if i = k then R else AM i, Bo.put R.toList (k * 7) h1, by rw [spl_size, h2], fun i hi j u hj => ?_, fun i hi => ?_⟩
 ·rw [spl_get _ _ _ _ (by simp [hs]; omega)]
  have hj : (if i = k then R else AM i)[j]? = some u := hj
  by_cases e : i = k
  ·subst e
   rw [if_pos rfl] at hj
   have hj7 : j < 7 := by have := (Array.getElem?_eq_some_iff.1 hj).1; omega
   rw [if_pos (by simp [hs]; omega), Array.getElem?_toList, show i * 7 + j - i * 7 = j by omega]
   exact hj
  ·rw [if_neg e] at hj
   have hj7 : j < 7 := by have := (Array.getElem?_eq_some_iff.1 hj).1; have := (h4 i (by omega)).size; omega
   rw [if_neg (by omega)]
   exact h3 i (by omega) j u hj
 ·show OdO _ _ (if i = k then R else AM i) (XM i)
  by_cases e : i = k
  ·subst e
   rw [if_pos rfl]
   exact (hR.low hl).put R.toList (Nat.le_refl _)
  ·rw [if_neg e]
   exact (h4 i (by omega)).put R.toList (Nat.le_refl _)
def rowObjOp (n : Nat) : Obj := .cells (madeCells #[.int .i64 0, .int .i64 0, .int .i64 0, .int .i64 0, .int .i64 0, .string ⟨#[]⟩, .slice none 0 0] (n * 7)) 39
theorem infoOp : (Tryd.prog.info? 39).map (fun i => (i.zero, i.size, i.bytes)) = some (some (.agg #[.int .i64 0, .int .i64 0, .int .i64 0, .int .i64 0, .int .i64 0, .string ⟨#[]⟩, .slice none 0 0]), 7, 80) := by kernel_rfl
theorem NvO.new (w : World) (n : Nat) (XM : Nat → OpD) : NvO (w.alloc (rowObjOp n)) w.heap.size n 0 XM :=
 ⟨_, fun _ => #[], Bo.new w _ 39, size_madeCells _ _, fun i hi => absurd hi (Nat.not_lt_zero _), fun i hi => absurd hi (Nat.not_lt_zero _)⟩
attribute [-go_sem] loadCells storeCells in
set_option maxRecDepth 100000 in
set_option maxHeartbeats 8000000 in
theorem eqOpN_some (b off b' off' n c c' : Nat) (XM : Nat → OpD) (AM BM : Nat → Array Value) (w : World) (hn : n ≤ maxLen) (hc : CsP w b off n AM) (hq : ∀ i, i < n → OdW w (AM i) (XM i)) (hc' : CsP w b' off' n BM) (hq' : ∀ i, i < n → OdW w (BM i) (XM i)) :
 Calls Tryd.prog 34 #[.slice (some ⟨b, off, none⟩) n c, .slice (some ⟨b', off', none⟩) n c'] w fun e w' => e = .returned (.bool true) ∧ Below w.heap.size w w' := by
 unfold maxLen at hn
 have HC : Hid (CsP w b off n AM) := hc
 have HQ : Hid (∀ i, i < n → OdW w (AM i) (XM i)) := hq
 have HC' : Hid (CsP w b' off' n BM) := hc'
 have HQ' : Hid (∀ i, i < n → OdW w (BM i) (XM i)) := hq'
 clear hc hq hc' hq'
 go_enter Tryd.func34, Tryd.ntmps34
 go_wp2_with fail
 go_loopw [5] (fun i wr => ∃ k : Nat, k ≤ n ∧ i = .int .i64 k ∧ Below w.heap.size w wr) (fun i _ => n - (intOf i).toNat)
 case atStart => exact ⟨0, Nat.zero_le _, rfl, Below.refl _ _⟩
 case round =>
  obtain ⟨k, hk, rfl, B⟩ := hrel
  by_cases hlt : k < n
  ·have hx := HQ.out k hlt
   have hx' := HQ'.out k hlt
   have hxs := hx.size
   have hxs' := hx'.size
   have hL := HC.out.below B
   have hL' := HC'.out.below B
   have hli : (k : Int) < (n : Int) := by omega
   have CE := fun (v : World) (h : Below wr.heap.size wr v) => eqOpW (AM k) (BM k) (XM k) v ((hx.below B).below h) ((hx'.below B).below h)
   have SK : Hid (∀ w', Below wr.heap.size wr w' → (loadCells ⟨b, off + k * 7, none⟩ 7).run Tryd.prog w' = .ok (AM k) w' ∧ (loadCells ⟨b', off' + k * 7, none⟩ 7).run Tryd.prog w' = .ok (BM k) w') := fun w' hw => ⟨(hL.below hw).load (P := Tryd.prog) hlt hxs, (hL'.below hw).load (P := Tryd.prog) hlt hxs'⟩
   generalize AM k = Ak at *
   generalize BM k = Bk at *
   clear hx hx' hL hL' hxs hxs'
   go_wp2_with fail
   refine wp_region_held_drew (S := (fun w' => (loadCells ⟨b, off + k * 7, none⟩ 7).run Tryd.prog w' = .ok Ak w' ∧ (loadCells ⟨b', off' + k * 7, none⟩ 7).run Tryd.prog w' = .ok Bk w')) (by kernel_rfl) ?_ (fun hHeld => ?_)
   ·first | exact SK.out _ XB | exact SK.out _ (Below.drew (Below.refl _ _))
   have XB : Below wr.heap.size wr wr.drew := Below.drew (Below.refl _ _)
   generalize wr.drew = vx at *
   refine zTk 0 ?_
   refine zTk 1 ?_
   refine zTk 2 ?_
   refine zTk 3 ?_
   refine zTk 4 ?_
   refine zTk 5 ?_
   refine zTk 6 ?_
   refine zTk 7 ?_
   refine wpAnyH_ready (rs := [8]) (by kernel_rfl) (by simp) ?_
   refine AllReadyH.cons (by rw [List.getElem?_toArray]; rfl) (fun K hK => ?_) AllReadyH.nil
   go_simp
   refine (CE _ (XB)).mono ?_; rintro ee vx ⟨rfl, hbl⟩; (replace XB := XB.trans (hbl.mono XB.size)); (clear hbl)
   (try go_wp2_with fail)
   refine hK.out _ _ ?_ (fun hHeld => ?_)
   ·first | exact SK.out _ XB | exact SK.out _ (Below.drew (Below.refl _ _))
   clear hK K
   (try simp only [Act.put, zSb, zS0, zS1])
   refine zTk 9 ?_
   refine wpAnyH_done (by kernel_rfl) ?_ _
   have B2 := B.trans (XB.mono B.size)
   clear SK XB CE
   go_wp2_with fail
   go_roundw
   case rel => exact ⟨k + 1, by omega, by go_num, B2⟩
   case measure => simp [intOf]; omega
  ·have hli : ¬ (k : Int) < (n : Int) := by omega
   go_wp2_with fail
   go_ret
   exact ⟨rfl, B⟩
set_option maxHeartbeats 400000 in
theorem eqOpN_zero (a a' : Option Addr) (c c' : Nat) (w : World) :
 Calls Tryd.prog 34 #[.slice a 0 c, .slice a' 0 c'] w fun e w' => e = .returned (.bool true) ∧ Below w.heap.size w w' := by
 go_enter Tryd.func34, Tryd.ntmps34
 go_wp2_with fail
 go_loopw [5] (fun i wr => i = .int .i64 0 ∧ w = wr) (fun i _ => 0)
 case atStart => exact ⟨rfl, by first | rfl | trivial⟩
 case round =>
  obtain ⟨rfl, rfl⟩ := hrel
  go_wp2_with fail
  go_ret
  exact ⟨rfl, Below.refl _ _⟩
theorem eqOpN_any (a a' : Option Addr) (n c c' : Nat) (XM : Nat → OpD) (w : World) (hn : n ≤ maxLen) (h : RwP OdW w a n XM) (h' : RwP OdW w a' n XM) :
 Calls Tryd.prog 34 #[.slice a n c, .slice a' n c'] w fun e w' => e = .returned (.bool true) ∧ Below w.heap.size w w' := by
 by_cases h0 : n = 0
 ·subst h0; exact eqOpN_zero a a' c c' w
 ·rcases h with h | ⟨b, off, AM, rfl, hc, hq⟩
  ·exact absurd h h0
  ·rcases h' with h | ⟨b', off', BM, rfl, hc', hq'⟩
   ·exact absurd h h0
   ·exact eqOpN_some b off b' off' n c c' XM AM BM w hn hc hq hc' hq'
end Go.Proofs.YtddjiamollfplaaDoor
