/- Rows of ops. ScriptText (the specification). -/
import Derived.Test.YtddjiamollfplaaGreatDoorMC22
namespace Go.Proofs.YtddjiamollfplaaGreatDoor
open Go.RowKit
set_option linter.unusedVariables false

structure OpD where
 k : Int
 nd : Int
 tt : Int
 a : Int
 b : Int
 tx : ByteArray
 n : Nat
 f : Nat → Int
def opV (x : OpD) (p : Option Addr) (c : Nat) : Array Value := #[.int .i64 x.k, .int .i64 x.nd, .int .i64 x.tt, .int .i64 x.a, .int .i64 x.b, .string x.tx, .slice p x.n c]
theorem be (x : OpD) (p : Option Addr) (c : Nat) : ∀ u ∈ (opV x p c).toList, u.oneCell' = true := by
 intro u hu
 simp only [opV, List.mem_cons, List.not_mem_nil, or_false] at hu
 rcases hu with h | h | h | h | h | h | h <;> (subst h; rfl)
def OdW (w : World) (A : Array Value) (x : OpD) : Prop := ∃ p c, A = opV x p c ∧ (x.tx.size ≤ maxLen ∧ x.n ≤ maxLen) ∧ ci w p x.n (itG x.f)
def OdS (w : World) (A : Array Value) (x : OpD) : Prop := ∃ p c, A = opV x p c ∧ (x.tx.size ≤ maxLen ∧ x.n ≤ maxLen) ∧ LsO w p x.n c x.f
def OdO (w : World) (l : Nat) (A : Array Value) (x : OpD) : Prop := ∃ j, l ≤ j ∧ A = opV x (some ⟨j, 0, none⟩) x.n ∧ (x.tx.size ≤ maxLen ∧ x.n ≤ maxLen) ∧ Cs w j 0 x.n (itG x.f)
theorem OdW.size {w : World} {A : Array Value} {x : OpD} (h : OdW w A x) : A.size = 7 := by
 obtain ⟨p, c, e, _⟩ := h
 rw [e]; rfl
theorem OdW.below {w w' : World} {A : Array Value} {x : OpD} (h : OdW w A x) (hb : Below w.heap.size w w') : OdW w' A x := by
 obtain ⟨p, c, e, hl, h1⟩ := h
 exact ⟨p, c, e, hl, h1.below hb⟩
theorem OdS.below {w w' : World} {A : Array Value} {x : OpD} (h : OdS w A x) (hb : Below w.heap.size w w') : OdS w' A x := by
 obtain ⟨p, c, e, hl, h1⟩ := h
 exact ⟨p, c, e, hl, h1.below hb⟩
theorem OdS.weak {w : World} {A : Array Value} {x : OpD} (h : OdS w A x) : OdW w A x := by
 obtain ⟨p, c, e, hl, h1⟩ := h
 exact ⟨p, c, e, hl, h1.src⟩
theorem OdS.size {w : World} {A : Array Value} {x : OpD} (h : OdS w A x) : A.size = 7 := h.weak.size
theorem OdO.below {w w' : World} {l : Nat} {A : Array Value} {x : OpD} (h : OdO w l A x) (hb : Below w.heap.size w w') : OdO w' l A x := by
 obtain ⟨j, hj, e, hl, h1⟩ := h
 exact ⟨j, hj, e, hl, h1.below hb h1.1⟩
theorem OdO.low {w : World} {l l' : Nat} {A : Array Value} {x : OpD} (h : OdO w l A x) (hl : l' ≤ l) : OdO w l' A x := by
 obtain ⟨j, hj, e, hs, h1⟩ := h
 exact ⟨j, Nat.le_trans hl hj, e, hs, h1⟩
theorem OdO.src {w : World} {l : Nat} {A : Array Value} {x : OpD} (h : OdO w l A x) : OdS w A x := by
 obtain ⟨j, hj, e, hs, h1⟩ := h
 exact ⟨_, _, e, hs, .inr ⟨_, _, rfl, .inr h1⟩⟩
theorem OdO.size {w : World} {l : Nat} {A : Array Value} {x : OpD} (h : OdO w l A x) : A.size = 7 := h.src.size
theorem OdO.one {w : World} {l : Nat} {A : Array Value} {x : OpD} (h : OdO w l A x) : ∀ u ∈ A.toList, u.oneCell' = true := by
 obtain ⟨j, hj, e, _⟩ := h
 rw [e]; exact be x _ _
theorem dg (k : Nat) (p : Addr) (hp : p.block ≠ k) : ∀ (us : List Value) (w : World) (o : Nat), (ac w k o us).cell? p = w.cell? p
 | [], _, _ => rfl
 | u :: us, w, o => by
  rw [ac, dg k p hp us]
  exact World.cell?_setCell_other _ _ _ _ (fun e => hp (by rw [← e]))
theorem OdO.put {w : World} {l g o : Nat} {A : Array Value} {x : OpD} (us : List Value) (h : OdO w l A x) (hg : g + 1 ≤ l) : OdO (ac w g o us) l A x := by
 obtain ⟨j, hj, e, hs, h1⟩ := h
 refine ⟨j, hj, e, hs, by rw [aR]; exact h1.1, fun i hi => ?_⟩
 rw [dg g _ (by show j ≠ g; omega)]
 exact h1.2 i hi
theorem OdS.one {w : World} {A : Array Value} {x : OpD} (h : OdS w A x) : ∀ u ∈ A.toList, u.oneCell' = true := by
 obtain ⟨p, c, e, _⟩ := h
 rw [e]; exact be x _ _
def CsP (w : World) (b off n : Nat) (AM : Nat → Array Value) : Prop := b < w.heap.size ∧ ∀ i, i < n → ∀ j u, (AM i)[j]? = some u → w.cell? ⟨b, off + i * 7 + j, none⟩ = some u
theorem CsP.below {w w' : World} {b off n : Nat} {AM : Nat → Array Value} (h : CsP w b off n AM) (hb : Below w.heap.size w w') : CsP w' b off n AM :=
 ⟨Nat.lt_of_lt_of_le h.1 hb.size, fun i hi j u hj => by rw [hb.cell (p := ⟨b, off + i * 7 + j, none⟩) h.1]; exact h.2 i hi j u hj⟩
theorem CsP.load {P : Program} {w : World} {b off n i : Nat} {AM : Nat → Array Value} (h : CsP w b off n AM) (hi : i < n) (hs : (AM i).size = 7) : (loadCells ⟨b, off + i * 7, none⟩ 7).run P w = .ok (AM i) w := by
 have e := run_loadCells_list (P := P) w ⟨b, off + i * 7, none⟩ (AM i).toList (fun j v hj => by rw [add_at]; exact h.2 i hi j v (by simpa using hj))
 have e2 : (AM i).toList.length = 7 := by simpa using hs
 rw [e2, Array.toArray_toList] at e
 exact e
def RwP (Q : World → Array Value → OpD → Prop) (w : World) (a : Option Addr) (n : Nat) (XM : Nat → OpD) : Prop := n = 0 ∨ ∃ b off AM, a = some ⟨b, off, none⟩ ∧ CsP w b off n AM ∧ ∀ i, i < n → Q w (AM i) (XM i)
theorem RwP.belowW {w w' : World} {a : Option Addr} {n : Nat} {XM : Nat → OpD} (h : RwP OdW w a n XM) (hb : Below w.heap.size w w') : RwP OdW w' a n XM := by
 rcases h with h | ⟨b, off, AM, e, hc, hq⟩
 ·exact .inl h
 ·exact .inr ⟨b, off, AM, e, hc.below hb, fun i hi => (hq i hi).below hb⟩
theorem RwP.belowS {w w' : World} {a : Option Addr} {n : Nat} {XM : Nat → OpD} (h : RwP OdS w a n XM) (hb : Below w.heap.size w w') : RwP OdS w' a n XM := by
 rcases h with h | ⟨b, off, AM, e, hc, hq⟩
 ·exact .inl h
 ·exact .inr ⟨b, off, AM, e, hc.below hb, fun i hi => (hq i hi).below hb⟩
theorem RwP.weak {w : World} {a : Option Addr} {n : Nat} {XM : Nat → OpD} (h : RwP OdS w a n XM) : RwP OdW w a n XM := by
 rcases h with h | ⟨b, off, AM, e, hc, hq⟩
 ·exact .inl h
 ·exact .inr ⟨b, off, AM, e, hc, fun i hi => (hq i hi).weak⟩
def NvO (w : World) (g n k : Nat) (XM : Nat → OpD) : Prop := ∃ (A : Array Value) (AM : Nat → Array Value), Bo w g A ∧ A.size = n * 7 ∧ (∀ i, i < k → ∀ j u, (AM i)[j]? = some u → A[i * 7 + j]? = some u) ∧ ∀ i, i < k → OdO w (g + 1) (AM i) (XM i)
theorem NvO.below {w w' : World} {g n k : Nat} {XM : Nat → OpD} (h : NvO w g n k XM) (hb : Below w.heap.size w w') : NvO w' g n k XM := by
 obtain ⟨A, AM, h1, h2, h3, h4⟩ := h
 exact ⟨A, AM, h1.below hb, h2, h3, fun i hi => (h4 i hi).below hb⟩
theorem NvO.put {w : World} {g n k l : Nat} {XM : Nat → OpD} {R : Array Value} (h : NvO w g n k XM) (hR : OdO w l R (XM k)) (hl : g + 1 ≤ l) (hk : k < n) : NvO (ac w g (k * 7) R.toList) g n (k + 1) XM := by
 obtain ⟨A, AM, h1, h2, h3, h4⟩ := h
 have hs := hR.size
 refine ⟨spl A (k * 7) R.toList, fun i => if i = k then R else AM i, Bo.put R.toList (k * 7) h1, by rw [iy, h2], fun i hi j u hj => ?_, fun i hi => ?_⟩
 ·rw [gu _ _ _ _ (by simp [hs]; omega)]
  have hj : (if i = k then R else AM i)[j]? = some u := hj
  by_cases e : i = k
  ·subst e
   rw [if_pos rfl] at hj
   have hj7 : j < 7 := by have := (Array.getElem?_eq_some_iff.1 hj).1; omega
   rw [if_pos (by simp [hs]; omega), Array.getElem?_toList, show i * 7 + j - i * 7 = j by omega]
   exact hj
  ·rw [if_neg e] at hj
   have hj7 : j < 7 := by have := (Array.getElem?_eq_some_iff.1 hj).1; have := (h4 i (by omega)).size; omega
   rw [if_neg (by omega)]
   exact h3 i (by omega) j u hj
 ·show OdO _ _ (if i = k then R else AM i) (XM i)
  by_cases e : i = k
  ·subst e
   rw [if_pos rfl]
   exact (hR.low hl).put R.toList (Nat.le_refl _)
  ·rw [if_neg e]
   exact (h4 i (by omega)).put R.toList (Nat.le_refl _)
def ly (n : Nat) : Obj := .cells (madeCells #[.int .i64 0, .int .i64 0, .int .i64 0, .int .i64 0, .int .i64 0, .string ⟨#[]⟩, .slice none 0 0] (n * 7)) 26
theorem mU : (Tryz.prog.info? 26).map (fun i => (i.zero, i.size, i.bytes)) = some (some (.agg #[.int .i64 0, .int .i64 0, .int .i64 0, .int .i64 0, .int .i64 0, .string ⟨#[]⟩, .slice none 0 0]), 7, 80) := by kernel_rfl
theorem NvO.new (w : World) (n : Nat) (XM : Nat → OpD) : NvO (w.alloc (ly n)) w.heap.size n 0 XM :=
 ⟨_, fun _ => #[], Bo.new w _ 26, size_madeCells _ _, fun i hi => absurd hi (Nat.not_lt_zero _), fun i hi => absurd hi (Nat.not_lt_zero _)⟩
end Go.Proofs.YtddjiamollfplaaGreatDoor
namespace Go.Proofs.YtddjiamollfplaaGreatDoor
open Go.RowKit
set_option linter.unusedVariables false

def oL (x : OpD) : ByteArray := olO x.k x.nd x.tt x.a x.b x.tx x.n x.f
def oB (x : OpD) : Bool := opB x.k x.nd x.tt x.a x.b x.tx x.n x.f
theorem d9 (x : OpD) : (oL x).size ≤ 400 := by
 have e1 : (⟨#[32]⟩ : ByteArray).size = 1 := rfl
 have e0 : (⟨#[]⟩ : ByteArray).size = 0 := rfl
 have hx := dH x.tx
 have hn := dA x.k
 unfold oL olO
 split
 ·rename_i h
  have hl := (co h).2.2.1
  have q := ew (opN x.k x.nd x.tt x.a x.b x.n x.f) (nmK x.k) (opN x.k x.nd x.tt x.a x.b x.n x.f).length
  unfold olB
  split
  ·rw [ByteArray.size_append, ByteArray.size_append]; omega
  ·omega
 ·omega
def scL (XM : Nat → OpD) : Nat → ByteArray
 | 0 => ⟨#[]⟩
 | k + 1 => (scL XM k ++ oL (XM k)) ++ ⟨#[10]⟩
theorem eH (XM : Nat → OpD) : ∀ k, (scL XM k).size ≤ 401 * k
 | 0 => by show (0 : Nat) ≤ _; omega
 | k + 1 => by
  have q := eH XM k
  have h := d9 (XM k)
  have e1 : (⟨#[10]⟩ : ByteArray).size = 1 := rfl
  rw [scL, ByteArray.size_append, ByteArray.size_append]
  omega
def scB (XM : Nat → OpD) (n : Nat) : Bool := decide (n ≤ 200) && ((List.range n).all (fun i => oB (XM i)) && decide ((scL XM n).size ≤ 20000))
def scO (XM : Nat → OpD) (n : Nat) : ByteArray := if scB XM n then scL XM n else ⟨#[]⟩
theorem ij {XM : Nat → OpD} {n : Nat} (h : 200 < n) : scB XM n = false := by
 unfold scB
 rw [decide_eq_false (by omega), Bool.false_and]
theorem jQ {XM : Nat → OpD} {n k : Nat} (hk : k < n) (h : oB (XM k) = false) : scB XM n = false := by
 have e : (List.range n).all (fun i => oB (XM i)) = false := by
  rw [List.all_eq_false]
  exact ⟨k, List.mem_range.2 hk, by rw [h]; decide⟩
 unfold scB
 rw [e, Bool.false_and, Bool.and_false]
theorem gh {XM : Nat → OpD} {n : Nat} (hn : n ≤ 200) (h : ∀ i, i < n → oB (XM i) = true) : scB XM n = decide ((scL XM n).size ≤ 20000) := by
 have e : (List.range n).all (fun i => oB (XM i)) = true := by
  rw [List.all_eq_true]
  exact fun i hi => h i (List.mem_range.1 hi)
 unfold scB
 rw [e, decide_eq_true hn, Bool.true_and, Bool.true_and]
theorem lC {XM : Nat → OpD} {n : Nat} (h : scB XM n = false) : scO XM n = ⟨#[]⟩ := by unfold scO; rw [h]; rfl
theorem jS {XM : Nat → OpD} {n : Nat} (h : scB XM n = true) : scO XM n = scL XM n := by unfold scO; rw [h]; rfl
theorem b9 {XM : Nat → OpD} {n : Nat} (h : scB XM n = false) : (Value.tuple #[.string ⟨#[]⟩, .bool false]) = .tuple #[.string (scO XM n), .bool (scB XM n)] := by rw [lC h, h]
theorem dh {XM : Nat → OpD} {n : Nat} (h : scB XM n = true) : (Value.tuple #[.string (scL XM n), .bool true]) = .tuple #[.string (scO XM n), .bool (scB XM n)] := by rw [jS h, h]
theorem ki (A : Array Value) (x : OpD) (w : World) (h : OdS w A x) :
 Calls Tryz.prog 48 #[.agg A] w fun e w' => e = .returned (.tuple #[.string (oL x), .bool (oB x)]) ∧ Below w.heap.size w w' := by
 obtain ⟨p, c, rfl, hl, h1⟩ := h
 exact eK x.k x.nd x.tt x.a x.b x.tx p x.n c x.f w hl.1 hl.2 h1
set_option maxHeartbeats 1000000 in
theorem d6 (a : Option Addr) (n c : Nat) (XM : Nat → OpD) (w : World) (hm : n ≤ maxLen) (hn : 200 < n) :
 Calls Tryz.prog 16 #[.slice a n c] w fun e w' => e = .returned (.tuple #[.string (scO XM n), .bool (scB XM n)]) ∧ Below w.heap.size w w' := by
 unfold maxLen at hm
 have hd : (200 : Int) < (n : Int) := by omega
 have HN : Hid (scB XM n = false) := ij hn
 go_enter Tryz.func16, Tryz.ntmps16
 go_wp2_with fail
 go_ret2
 exact ⟨congrArg _ (b9 HN.out), Below.refl _ _⟩
set_option maxHeartbeats 1000000 in
theorem d8 (a : Option Addr) (c : Nat) (XM : Nat → OpD) (w : World) :
 Calls Tryz.prog 16 #[.slice a 0 c] w fun e w' => e = .returned (.tuple #[.string (scO XM 0), .bool (scB XM 0)]) ∧ Below w.heap.size w w' := by
 have HN : Hid (scB XM 0 = true) := by rw [gh (by omega) (fun i hi => absurd hi (Nat.not_lt_zero _))]; rfl
 go_enter Tryz.func16, Tryz.ntmps16
 go_wp2_with fail
 go_loopw [4, 5] (fun s i wr => i = .int .i64 0 ∧ s = .string ⟨#[]⟩ ∧ w = wr) (fun _ i _ => 0)
 case atStart => exact ⟨rfl, rfl, by first | rfl | trivial⟩
 case round =>
  obtain ⟨rfl, rfl, rfl⟩ := hrel
  go_wp2_with fail
  go_ret2
  exact ⟨congrArg _ (dh HN.out), Below.refl _ _⟩
attribute [-go_sem] loadCells storeCells in
set_option maxRecDepth 100000 in
set_option maxHeartbeats 8000000 in
theorem d7 (b off n c : Nat) (XM : Nat → OpD) (AM : Nat → Array Value) (w : World) (hn : n ≤ 200) (hc : CsP w b off n AM) (hq : ∀ i, i < n → OdS w (AM i) (XM i)) :
 Calls Tryz.prog 16 #[.slice (some ⟨b, off, none⟩) n c] w fun e w' => e = .returned (.tuple #[.string (scO XM n), .bool (scB XM n)]) ∧ Below w.heap.size w w' := by
 have HC : Hid (CsP w b off n AM) := hc
 have HQ : Hid (∀ i, i < n → OdS w (AM i) (XM i)) := hq
 have hd : ¬ (200 : Int) < (n : Int) := by omega
 clear hc hq
 go_enter Tryz.func16, Tryz.ntmps16
 go_wp2_with fail
 clear hd
 go_loopw [4, 5] (fun s i wr => ∃ k : Nat, k ≤ n ∧ i = .int .i64 k ∧ s = .string (scL XM k) ∧ (∀ i, i < k → oB (XM i) = true) ∧ Below w.heap.size w wr) (fun _ i _ => n - (intOf i).toNat)
 case atStart => exact ⟨0, Nat.zero_le _, rfl, rfl, fun i hi => absurd hi (Nat.not_lt_zero _), Below.refl _ _⟩
 case round =>
  obtain ⟨k, hk, rfl, rfl, hal, B⟩ := hrel
  have HA : Hid (∀ i, i < k → oB (XM i) = true) := hal
  clear hal
  have hzk := eH XM k
  by_cases hlt : k < n
  ·have hx := HQ.out k hlt
   have hxs := hx.size
   have hL := (HC.out.below B).load (P := Tryz.prog) hlt hxs
   have hli : (k : Int) < (n : Int) := by omega
   have CT := ki (AM k) (XM k) wr (hx.below B)
   have ht := d9 (XM k)
   have HB : Hid (oB (XM k) = false → scB XM n = false) := fun h => jQ hlt h
   have HK : Hid (oB (XM k) = true → ∀ i, i < k + 1 → oB (XM i) = true) := fun h i hi => by
    by_cases e : i = k
    ·subst e; exact h
    ·exact HA.out i (by omega)
   have HS : Hid ((scL XM k ++ oL (XM k)) ++ ⟨#[10]⟩ = scL XM (k + 1)) := rfl
   clear HA
   generalize AM k = Ak at *
   generalize oL (XM k) = ob at *
   generalize oB (XM k) = bb at *
   generalize scL XM k = sk at *
   have e10 : (⟨#[10]⟩ : ByteArray).size = 1 := rfl
   have hle1 : ¬ 9223372036854775807 < sk.size + ob.size := by omega
   have hle2 : ¬ 9223372036854775807 < sk.size + ob.size + 1 := by omega
   clear hx
   go_wp2_with (rw [hL])
   refine CT.mono ?_
   rintro e w2 ⟨rfl, hb⟩
   clear hL CT
   replace B := B.trans (hb.mono B.size)
   clear hb
   cases bb
   ·go_wp2_with fail
    go_ret2
    exact ⟨congrArg _ (b9 (HB.out (by first | trivial | rfl))), B⟩
   ·go_wp2_with fail
    go_roundw
    case rel => exact ⟨k + 1, by omega, by go_num, by first | (rw [← HS.out]; done) | (rw [← HS.out]; rfl), HK.out (by first | trivial | rfl), B⟩
    case measure => simp [intOf]; omega
  ·have hkn : k = n := by omega
   subst hkn
   have hli : ¬ (k : Int) < (k : Int) := by omega
   have HN : Hid (scB XM k = decide ((scL XM k).size ≤ 20000)) := gh hn HA.out
   clear HA
   have HY : Hid (scB XM k = true → (Value.tuple #[.string (scL XM k), .bool true]) = .tuple #[.string (scO XM k), .bool (scB XM k)]) := dh
   have HZ : Hid (scB XM k = false → (Value.tuple #[.string ⟨#[]⟩, .bool false]) = .tuple #[.string (scO XM k), .bool (scB XM k)]) := b9
   generalize scL XM k = sk at *
   by_cases hbig : (20000 : Int) < (sk.size : Int)
   ·go_wp2_with fail
    go_ret2
    exact ⟨congrArg _ (HZ.out (by rw [HN.out]; exact decide_eq_false (by omega))), B⟩
   ·go_wp2_with fail
    go_ret2
    exact ⟨congrArg _ (HY.out (by rw [HN.out]; exact decide_eq_true (by omega))), B⟩
theorem eL (a : Option Addr) (n c : Nat) (XM : Nat → OpD) (w : World) (hm : n ≤ maxLen) (h : RwP OdS w a n XM) :
 Calls Tryz.prog 16 #[.slice a n c] w fun e w' => e = .returned (.tuple #[.string (scO XM n), .bool (scB XM n)]) ∧ Below w.heap.size w w' := by
 by_cases hn : 200 < n
 ·exact d6 a n c XM w hm hn
 rcases h with rfl | ⟨b, off, AM, rfl, hc, hq⟩
 ·exact d8 a c XM w
 ·exact d7 b off n c XM AM w (by omega) hc hq

end Go.Proofs.YtddjiamollfplaaGreatDoor
