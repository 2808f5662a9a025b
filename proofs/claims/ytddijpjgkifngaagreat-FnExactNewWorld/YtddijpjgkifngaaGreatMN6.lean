/- What the laws keep; rows of numbers, of intervals and of peers, told b -/
import Derived.Deep.DeepAppendRoom
import Derived.Laws.OwnMore
import Derived.Test.YtddijpjgkifngaaGreatMN0
import Derived.Test.YtddijpjgkifngaaGreatMN3
import Derived.Test.YtddijpjgkifngaaGreatMN5
namespace Go.Proofs.YtddijpjgkifngaaGreat
open Go.RowKit
set_option linter.unusedVariables false
set_option maxRecDepth 100000
set_option maxHeartbeats 16000000
theorem But.grK {w w' : World} {q : Nat} (h : But q w w') : w.grownBy w' (some q) := ⟨h.1, h.2.1, h.2.2.1, h.2.2.2.1, fun k hk hp => h.2.2.2.2 k hk (fun e => hp (by rw [e]))⟩
def fH (w : World) (a : Option Addr) (m : Nat) (F : Nat → Value) (L : Nat) : Prop := m = 0 ∨ ∃ b off, a = some ⟨b, off, none⟩ ∧ b < L ∧ Cs w b off m F
theorem fH.src {w : World} {a : Option Addr} {m L : Nat} {F : Nat → Value} (h : fH w a m F L) : ae w a m F := by
 rcases h with h | ⟨b, off, h1, _, h2⟩
 ·exact .inl h
 ·exact .inr ⟨b, off, h1, h2⟩
theorem fH.below {w w' : World} {a : Option Addr} {m L : Nat} {F : Nat → Value} (h : fH w a m F L) (hb : Below w.heap.size w w') : fH w' a m F L := by
 rcases h with h | ⟨b, off, h1, h3, h2⟩
 ·exact .inl h
 ·exact .inr ⟨b, off, h1, h3, h2.below hb h2.1⟩
theorem Cs.kept {w w' : World} {o : Option Nat} {b off N : Nat} {F : Nat → Value} (h : Cs w b off N F) (hg : w.grownBy w' o) (hne : some b ≠ o) : Cs w' b off N F :=
 ⟨Nat.lt_of_lt_of_le h.1 hg.size, fun j hj => by
  have := hg.block b h.1 hne
  have q := h.2 j hj
  simp only [World.cell?] at q ⊢
  rw [this]; exact q⟩
theorem fH.kept {w w' : World} {o : Option Nat} {a : Option Addr} {m L : Nat} {F : Nat → Value} (h : fH w a m F L) (hg : w.grownBy w' o) (hne : ∀ b, b < L → some b ≠ o) : fH w' a m F L := by
 rcases h with h | ⟨b, off, h1, h3, h2⟩
 ·exact .inl h
 ·exact .inr ⟨b, off, h1, h3, h2.kept hg (hne b h3)⟩
theorem bK {w w' : World} {o : Option Nat} {b i : Nat} (hg : w.grownBy w' o) (hb : b < w.heap.size) (hne : some b ≠ o) : w'.cell? ⟨b, i, none⟩ = w.cell? ⟨b, i, none⟩ := by
 have := hg.block b hb hne
 simp only [World.cell?]
 rw [this]
theorem az {w w' : World} {base : Nat} {e : TypeId} {size : Nat} {v : Value} {n : Nat} {xs : List Value} (h : w.ownsRow base e size v n xs) (hg : w.grownBy w' v.ownBlock) (hs : base ≤ w.heap.size) : Below base w w' :=
 ⟨hg.os, hg.tape, hg.output, hg.size, fun k hk => hg.block k (by omega) (fun he => by have := (World.ownsRow.lt h k he.symm).1; omega)⟩
def MFInt (f : Nat → Int) (c : Nat) : Value := .int .i64 (f c)
def bS (q : Int) (c : Nat) : Value := .int .i64 (q + (c : Int))
theorem fk (b N n c : Nat) (q0 : Int) (w : World) (hn : n ≤ 1048576) (hq : 0 < q0) (hq1 : q0 ≤ 1073741824) (hN : n ≤ N) (h : ao w b 3 N 0 (bS q0)) :
 Calls Tryz.prog 29 #[.slice (some ⟨b, 0, none⟩) n c, .int .i64 q0] w fun e w' => e = .returned (.int .i64 (q0 + (n : Int))) ∧ ao w' b 3 N n (bS q0) ∧ But b w w' := by
 go_enter Tryz.func29, Tryz.ntmps29
 go_wp2_with fail
 go_loopw [1, 5] (fun q i wr => ∃ (k : Nat) (Q : Int), k ≤ n ∧ i = .int .i64 k ∧ q = .int .i64 Q ∧ Q = q0 + (k : Int) ∧ ao wr b 3 N k (bS q0) ∧ But b w wr) (fun _ i _ => n - (intOf i).toNat)
 case atStart => exact ⟨0, q0, Nat.zero_le _, rfl, rfl, by omega, h, But.refl _ _⟩
 case round =>
  obtain ⟨k, Q, hk, rfl, rfl, hQ, row, hB⟩ := hrel
  clear h
  have HQ : Hid (Q = q0 + (k : Int)) := hQ
  by_cases hlt : k < n
  ·have hli : (k : Int) < (n : Int) := by omega
   have Q0 : 0 < Q := by omega
   have Q1 : Q ≤ 1073741824 + 1048576 := by omega
   clear hQ
   obtain ⟨⟨v1, e1⟩, f1⟩ := row.facts k (by omega)
   have l1 := row.lt
   go_wp2_with fail
   go_roundw
   case rel => exact ⟨k + 1, _, by omega, by go_num, rfl, by have := HQ.out; omega, row.put (k + 1) rfl (by rw [bS, ← HQ.out]), hB.setCell _ _⟩
   case measure => simp [intOf]; omega
  ·have hkn : k = n := by omega
   subst hkn
   have hli : ¬ (k : Int) < (k : Int) := by omega
   subst hQ
   go_wp2_with fail
   go_ret
   exact ⟨rfl, row, hB⟩
theorem el (a : Option Addr) (c : Nat) (q0 : Int) (w : World) :
 Calls Tryz.prog 29 #[.slice a 0 c, .int .i64 q0] w fun e w' => e = .returned (.int .i64 q0) ∧ w = w' := by
 go_enter Tryz.func29, Tryz.ntmps29
 go_wp2_with fail
 go_loopw [1, 5] (fun q i wr => i = .int .i64 0 ∧ q = .int .i64 q0 ∧ w = wr) (fun _ i _ => 0)
 case atStart => exact ⟨rfl, rfl, by first | rfl | trivial⟩
 case round =>
  obtain ⟨rfl, rfl, rfl⟩ := hrel
  go_wp2_with fail
  go_ret
  exact ⟨rfl, rfl⟩
theorem ec (b off n c : Nat) (q0 : Int) (w : World) (hn : n ≤ 1048576) (hq : 0 < q0) (hq1 : q0 ≤ 1073741824) (h : Cs w b off n (bS q0)) :
 Calls Tryz.prog 30 #[.slice (some ⟨b, off, none⟩) n c, .int .i64 q0] w fun e w' => e = .returned (.int .i64 (q0 + (n : Int))) ∧ w = w' := by
 have HP : Hid (Cs w b off n (bS q0)) := h
 clear h
 go_enter Tryz.func30, Tryz.ntmps30
 go_wp2_with fail
 go_loopw [1, 5] (fun q i wr => ∃ (k : Nat) (Q : Int), k ≤ n ∧ i = .int .i64 k ∧ q = .int .i64 Q ∧ Q = q0 + (k : Int) ∧ w = wr) (fun _ i _ => n - (intOf i).toNat)
 case atStart => exact ⟨0, q0, Nat.zero_le _, rfl, rfl, by omega, by first | rfl | trivial⟩
 case round =>
  obtain ⟨k, Q, hk, rfl, rfl, hQ, rfl⟩ := hrel
  have HQ : Hid (Q = q0 + (k : Int)) := hQ
  by_cases hlt : k < n
  ·have hli : (k : Int) < (n : Int) := by omega
   have Q0 : 0 < Q := by omega
   have Q1 : Q ≤ 1073741824 + 1048576 := by omega
   have c0 : w.cell? ⟨b, off + k, none⟩ = some (.int .i64 Q) := by have q := HP.out.2 k hlt; rw [bS, ← hQ] at q; exact q
   have hbl := HP.out.1
   clear hQ
   go_wp2_with fail
   go_roundw
   case rel => exact ⟨k + 1, _, by omega, by go_num, rfl, by have := HQ.out; omega, by first | rfl | trivial⟩
   case measure => simp [intOf]; omega
  ·have hkn : k = n := by omega
   subst hkn
   have hli : ¬ (k : Int) < (k : Int) := by omega
   subst hQ
   go_wp2_with fail
   go_ret
   exact ⟨rfl, rfl⟩
theorem ed (a : Option Addr) (c : Nat) (q0 : Int) (w : World) :
 Calls Tryz.prog 30 #[.slice a 0 c, .int .i64 q0] w fun e w' => e = .returned (.int .i64 q0) ∧ w = w' := by
 go_enter Tryz.func30, Tryz.ntmps30
 go_wp2_with fail
 go_loopw [1, 5] (fun q i wr => i = .int .i64 0 ∧ q = .int .i64 q0 ∧ w = wr) (fun _ i _ => 0)
 case atStart => exact ⟨rfl, rfl, by first | rfl | trivial⟩
 case round =>
  obtain ⟨rfl, rfl, rfl⟩ := hrel
  go_wp2_with fail
  go_ret
  exact ⟨rfl, rfl⟩
theorem e9 (a : Option Addr) (n c : Nat) (q0 : Int) (w : World) (hn : n ≤ 1048576) (hq : 0 < q0) (hq1 : q0 ≤ 1073741824) (h : ae w a (n * 1) (bS q0)) :
 Calls Tryz.prog 30 #[.slice a n c, .int .i64 q0] w fun e w' => e = .returned (.int .i64 (q0 + (n : Int) * 1)) ∧ w = w' := by
 rw [Nat.mul_one] at h
 rw [Int.mul_one]
 rcases h with h0 | ⟨b, off, rfl, hp⟩
 ·subst h0
  exact (ed a c q0 w).mono fun e w' ⟨h1, h2⟩ => ⟨by rw [h1]; simp, h2⟩
 ·exact ec b off n c q0 w hn hq hq1 hp
abbrev VT : Type := Int × Int
def jj (M : VT) : Nat → Value
 | 0 => .int .i64 M.1
 | _ => .int .i64 M.2
def aC (M : Nat → VT) (c : Nat) : Value := jj (M (c / 2)) (c % 2)
theorem ex (M : Nat → VT) (k j : Nat) (hj : j < 2) : aC M (k * 2 + j) = jj (M k) j := by
 have h1 : (k * 2 + j) / 2 = k := by omega
 have h2 : (k * 2 + j) % 2 = j := by omega
 rw [aC, h1, h2]
theorem fF {M : Nat → VT} {k : Nat} {x0 : Int} {x1 : Int} (hM : M k = (x0, x1)) : aC M (k * 2) = .int .i64 x0 ∧ aC M (k * 2 + 1) = .int .i64 x1 :=
 ⟨by have q := ex M k 0 (by decide); rw [hM] at q; exact q, by have q := ex M k 1 (by decide); rw [hM] at q; exact q⟩
theorem Cs.elIval {w : World} {b off n k : Nat} {M : Nat → VT} {x0 : Int} {x1 : Int} (h : Cs w b off (n * 2) (aC M)) (hk : k < n) (hM : M k = (x0, x1)) : w.cell? ⟨b, off + k * 2, none⟩ = some (.int .i64 x0) ∧ w.cell? ⟨b, off + k * 2 + 1, none⟩ = some (.int .i64 x1) := by
 obtain ⟨q0, q1⟩ := fF hM
 exact ⟨by have := h.2 (k * 2) (by omega); rw [q0] at this; exact this, by have := h.2 (k * 2 + 1) (by omega); rw [q1] at this; exact this⟩
theorem bY (M : Nat → VT) (k : Nat) : ∃ (x0 : Int) (x1 : Int), M k = (x0, x1) := ⟨_, _, rfl⟩
def kw (q : Int) (c : Nat) : Value := .int .i64 (q + (c : Int))
def gI (L : List Int) (i : Nat) : Int := L.getD i 0
def bC (L : List Int) : List Value := (List.range (L.length * 1)).map (MFInt (gI L))
theorem kr {L : List Int} {p : Int} {i : Nat} (h : i < L.length) : gI (L ++ [p]) i = gI L i := by rw [gI, gI, List.getD_eq_getElem?_getD, List.getD_eq_getElem?_getD, List.getElem?_append_left h]
theorem kq (L : List Int) (p : Int) : gI (L ++ [p]) L.length = p := by rw [gI, List.getD_eq_getElem?_getD, List.getElem?_append_right (Nat.le_refl _), Nat.sub_self]; rfl
theorem i6 (L : List Int) (p : Int) : bC (L ++ [p]) = bC L ++ [.int .i64 p] := by
 rw [bC, List.length_append, show [p].length = 1 from rfl, jD, bC]
 congr 1
 ·refine List.map_congr_left fun c hc => ?_
  have hc' : c < L.length * 1 := List.mem_range.1 hc
  show Value.int .i64 (gI (L ++ [p]) c) = .int .i64 (gI L c)
  rw [kr (by omega)]
 ·show [Value.int .i64 (gI (L ++ [p]) (L.length * 1 + 0))] = [.int .i64 p]
  rw [Nat.mul_one, Nat.add_zero, kq]
def Bx2 (w : World) (k : Nat) (u0 u1 : Value) : Prop := k < w.heap.size ∧ w.cell? ⟨k, 0, none⟩ = some u0 ∧ w.cell? ⟨k, 1, none⟩ = some u1 ∧ w.frozen? ⟨k, 0, none⟩ = false ∧ w.frozen? ⟨k, 1, none⟩ = false
theorem Bx2.belowB {k B : Nat} {w w' : World} {u0 u1 : Value} (h : Bx2 w k u0 u1) (hw : Below B w w') (hk : k < B) : Bx2 w' k u0 u1 := by
 obtain ⟨h0, h1, h2, f1, f2⟩ := h
 exact ⟨Nat.lt_of_lt_of_le h0 hw.size, by rw [hw.cell (p := ⟨k, 0, none⟩) hk]; exact h1, by rw [hw.cell (p := ⟨k, 1, none⟩) hk]; exact h2, by rw [hw.frozen (p := ⟨k, 0, none⟩) hk]; exact f1, by rw [hw.frozen (p := ⟨k, 1, none⟩) hk]; exact f2⟩
theorem Bx2.below {k : Nat} {w w' : World} {u0 u1 : Value} (h : Bx2 w k u0 u1) (hw : Below w.heap.size w w') : Bx2 w' k u0 u1 := h.belowB hw h.1
theorem Bx2.but {w w' : World} {k q : Nat} {u0 u1 : Value} (h : Bx2 w k u0 u1) (hb : But q w w') (hq : k ≠ q) : Bx2 w' k u0 u1 := by
 obtain ⟨h0, h1, h2, f1, f2⟩ := h
 exact ⟨Nat.lt_of_lt_of_le h0 hb.2.2.2.1, by rw [hb.cell h0 hq]; exact h1, by rw [hb.cell h0 hq]; exact h2, by rw [hb.frozen h0 hq]; exact f1, by rw [hb.frozen h0 hq]; exact f2⟩
theorem Bx2.alloc {k : Nat} {w : World} {u0 u1 : Value} (h : Bx2 w k u0 u1) (o : Obj) : Bx2 (w.alloc o) k u0 u1 := h.below ((Below.refl _ _).alloc (Nat.le_refl _) _)
theorem Bx2.new (w : World) (u0 u1 : Value) (T : TypeId) : Bx2 (w.alloc (.cells #[u0, u1] T)) w.heap.size u0 u1 := ⟨by simp, by simp, by simp, by simp, by simp⟩
theorem Bx2.drew {k : Nat} {w : World} {u0 u1 : Value} (h : Bx2 w k u0 u1) : Bx2 w.drew k u0 u1 := h
theorem Bx2.setO {k j : Nat} {w : World} {u0 u1 : Value} (h : Bx2 w k u0 u1) (hk : j ≠ k) (o : Nat) (u : Value) : Bx2 (w.setCell ⟨j, o, none⟩ u) k u0 u1 := by
 have hne : ∀ q, (⟨j, o, none⟩ : Addr) ≠ ⟨k, q, none⟩ := fun q e => hk (congrArg Addr.block e)
 obtain ⟨h0, h1, h2, f1, f2⟩ := h
 exact ⟨by simpa using h0, by rw [World.cell?_setCell_other _ _ _ _ (hne _)]; exact h1, by rw [World.cell?_setCell_other _ _ _ _ (hne _)]; exact h2, by simpa using f1, by simpa using f2⟩
theorem Bx2.set0 {k : Nat} {w : World} {u0 u1 : Value} (h : Bx2 w k u0 u1) (x : Value) : Bx2 (w.setCell ⟨k, 0, none⟩ x) k x u1 := by
 obtain ⟨h0, h1, h2, f1, f2⟩ := h
 exact ⟨by simpa using h0, World.cell?_setCell_same _ _ _ h1, (zO (by simp)).trans h2, by simpa using f1, by simpa using f2⟩
theorem Bx2.set1 {k : Nat} {w : World} {u0 u1 : Value} (h : Bx2 w k u0 u1) (x : Value) : Bx2 (w.setCell ⟨k, 1, none⟩ x) k u0 x := by
 obtain ⟨h0, h1, h2, f1, f2⟩ := h
 exact ⟨by simpa using h0, (zO (by simp)).trans h1, World.cell?_setCell_same _ _ _ h2, by simpa using f1, by simpa using f2⟩
theorem Bx2.kept {w w' : World} {q : Option Nat} {k : Nat} {u0 u1 : Value} (h : Bx2 w k u0 u1) (hg : w.grownBy w' q) (hq : some k ≠ q) : Bx2 w' k u0 u1 := by
 obtain ⟨h0, h1, h2, f1, f2⟩ := h
 have cc : ∀ i, w'.cell? ⟨k, i, none⟩ = w.cell? ⟨k, i, none⟩ := fun i => bK hg h0 hq
 have ff : ∀ i, w'.frozen? ⟨k, i, none⟩ = w.frozen? ⟨k, i, none⟩ := fun i => by have := hg.block k h0 hq; simp only [World.frozen?]; rw [this]
 exact ⟨Nat.lt_of_lt_of_le h0 hg.size, by rw [cc]; exact h1, by rw [cc]; exact h2, by rw [ff]; exact f1, by rw [ff]; exact f2⟩
def Bo (w : World) (k : Nat) (A : Array Value) : Prop := k < w.heap.size ∧ (∀ i u, A[i]? = some u → w.cell? ⟨k, i, none⟩ = some u) ∧ ∀ i, i < A.size → w.frozen? ⟨k, i, none⟩ = false
theorem Bo.belowB {k B : Nat} {w w' : World} {A : Array Value} (h : Bo w k A) (hw : Below B w w') (hk : k < B) : Bo w' k A :=
 ⟨Nat.lt_of_lt_of_le h.1 hw.size, fun i u hi => by rw [hw.cell (p := ⟨k, i, none⟩) hk]; exact h.2.1 i u hi, fun i hi => by rw [hw.frozen (p := ⟨k, i, none⟩) hk]; exact h.2.2 i hi⟩
theorem Bo.below {k : Nat} {w w' : World} {A : Array Value} (h : Bo w k A) (hw : Below w.heap.size w w') : Bo w' k A := h.belowB hw h.1
theorem Bo.new (w : World) (A : Array Value) (T : TypeId) : Bo (w.alloc (.cells A T)) w.heap.size A :=
 ⟨by simp, fun i u hi => by simp [hi], fun i hi => by simp⟩
theorem Bo.drew {k : Nat} {w : World} {A : Array Value} (h : Bo w k A) : Bo w.drew k A := h
theorem add_at (k o i : Nat) : (⟨k, o, none⟩ : Addr).add i = ⟨k, o + i, none⟩ := by
 unfold Addr.add; split <;> simp_all
theorem Bo.load {P : Program} {w : World} {k n : Nat} {A : Array Value} (h : Bo w k A) (hn : A.size = n) : (loadCells ⟨k, 0, none⟩ n).run P w = .ok A w := by
 have e := run_loadCells_list (P := P) w ⟨k, 0, none⟩ A.toList (fun j v hj => by rw [add_at, Nat.zero_add]; exact h.2.1 j v (by simpa using hj))
 rw [← hn]
 simpa using e
theorem Bo.loadAt {P : Program} {w : World} {k : Nat} {A : Array Value} (h : Bo w k A) (o n : Nat) (hn : o + n ≤ A.size) : (loadCells ⟨k, o, none⟩ n).run P w = .ok (A.extract o (o + n)) w := by
 have e := run_loadCells_list (P := P) w ⟨k, o, none⟩ (A.extract o (o + n)).toList (fun j v hj => by
  rw [add_at]
  refine h.2.1 _ v ?_
  rw [Array.getElem?_toList, Array.getElem?_extract] at hj
  split at hj
  ·exact hj
  ·cases hj)
 have hl : (A.extract o (o + n)).toList.length = n := by simp; omega
 rw [hl, Array.toArray_toList] at e
 exact e
def ah (w : World) (k : Nat) : Nat → List Value → World
 | _, [] => w
 | o, u :: us => ah (w.setCell ⟨k, o, none⟩ u) k (o + 1) us
theorem eD (k : Nat) : ∀ (us : List Value) (w : World) (o : Nat), (ah w k o us).heap.size = w.heap.size
 | [], _, _ => rfl
 | u :: us, w, o => by rw [ah, eD k us]; simp
theorem gu {j : Nat} : ∀ (us : List Value) (v w : World) (o : Nat), But j v w → But j v (ah w j o us)
 | [], _, _, _, h => h
 | u :: us, v, w, o, h => gu us v _ (o + 1) (h.setCell o u)
theorem ai {k B : Nat} : ∀ (us : List Value) (v w : World) (o : Nat), Below B v w → B ≤ k → Below B v (ah w k o us)
 | [], _, _, _, h, _ => h
 | u :: us, v, w, o, h, hk => ai us v _ (o + 1) (h.setCell (p := ⟨k, o, none⟩) hk u) hk
def spl (A : Array Value) : Nat → List Value → Array Value
 | _, [] => A
 | o, u :: us => spl (A.setIfInBounds o u) (o + 1) us
theorem bV : ∀ (us : List Value) (A : Array Value) (o : Nat), (spl A o us).size = A.size
 | [], _, _ => rfl
 | u :: us, A, o => by rw [spl, bV us]; simp
theorem Bo.set {w : World} {k : Nat} {A : Array Value} (h : Bo w k A) (o : Nat) (u : Value) : Bo (w.setCell ⟨k, o, none⟩ u) k (A.setIfInBounds o u) := by
 refine ⟨by simpa using h.1, fun i x hi => ?_, fun i hi => ?_⟩
 ·by_cases e : o = i
  ·subst e
   by_cases ho : o < A.size
   ·rw [Array.getElem?_setIfInBounds_self_of_lt ho] at hi
    cases hi
    exact World.cell?_setCell_same _ _ _ (h.2.1 o A[o] (Array.getElem?_eq_getElem ho))
   ·rw [Array.getElem?_eq_none (by simp; omega)] at hi
    cases hi
  ·rw [Array.getElem?_setIfInBounds_ne e] at hi
   rw [zO (by simp)]
   exact h.2.1 i x hi
 ·have := h.2.2 i (by simpa using hi)
  simpa using this
theorem Bo.put {k : Nat} : ∀ (us : List Value) {w : World} {A : Array Value} (o : Nat), Bo w k A → Bo (ah w k o us) k (spl A o us)
 | [], _, _, _, h => h
 | u :: us, _, _, o, h => Bo.put us (o + 1) (h.set o u)
theorem bh : ∀ (us : List Value) (A : Array Value) (o i : Nat), o + us.length ≤ A.size → (spl A o us)[i]? = if o ≤ i ∧ i < o + us.length then us[i - o]? else A[i]?
 | [], A, o, i, _ => by rw [spl, if_neg (by simp)]
 | u :: us, A, o, i, h => by
  simp only [List.length_cons] at h
  rw [spl, bh us _ (o + 1) i (by simp; omega)]
  by_cases e : i = o
  ·subst e
   rw [if_neg (by omega), if_pos (by simp), Array.getElem?_setIfInBounds_self_of_lt (by omega), Nat.sub_self]
   rfl
  ·by_cases h1 : o + 1 ≤ i ∧ i < o + 1 + us.length
   ·rw [if_pos h1, if_pos (by simp; omega)]
    obtain ⟨d, hd⟩ : ∃ d, i - o = d + 1 := ⟨i - o - 1, by omega⟩
    rw [hd, show i - (o + 1) = d by omega]
    rfl
   ·rw [if_neg h1, if_neg (by simp; omega), Array.getElem?_setIfInBounds_ne (by omega)]
theorem eF (A U : Array Value) (h : U.size = A.size) : spl A 0 U.toList = U := by
 apply Array.ext_getElem?
 intro i
 rw [bh _ _ _ _ (by simp; omega)]
 by_cases hi : i < U.size
 ·rw [if_pos (by simpa using hi)]; simp
 ·rw [if_neg (by simpa using hi), Array.getElem?_eq_none (by omega), Array.getElem?_eq_none (by omega)]
theorem Bo.putW {k : Nat} {w : World} {A U : Array Value} (h : Bo w k A) (hU : U.size = A.size) : Bo (ah w k 0 U.toList) k U := by
 have e := Bo.put U.toList 0 h
 rw [eF A U hU] at e
 exact e
theorem Bo.store {P : Program} {k b : Nat} : ∀ (us : List Value) {w : World} {A : Array Value} (o i : Nat), Bo w k A → b + i = o → o + us.length ≤ A.size → (∀ u ∈ us, u.oneCell' = true) → (storeCells ⟨k, b, none⟩ us i).run P w = .ok () (ah w k o us)
 | [], _, _, _, _, _, _, _, _ => rfl
 | u :: us, w, A, o, i, h, hb, hl, hu => by
  simp only [List.length_cons] at hl
  have hc := h.2.1 o A[o] (Array.getElem?_eq_getElem (by omega))
  have hf := h.2.2 o (by omega)
  rw [storeCells, Sem.run_bind, add_at, hb, run_store _ _ _ _ _ (hu u (List.mem_cons_self ..)), hc]
  simp [hf, Result.andThen]
  exact Bo.store us (o + 1) (i + 1) (h.set o u) (by omega) (by simp; omega) (fun x hx => hu x (List.mem_cons_of_mem _ hx))
theorem Bo.cell {w : World} {k : Nat} {A : Array Value} (h : Bo w k A) {i : Nat} {u : Value} (hi : A[i]? = some u) : w.cell? ⟨k, i, none⟩ = some u := h.2.1 i u hi
theorem Bo.kept {w w' : World} {q : Option Nat} {k : Nat} {A : Array Value} (h : Bo w k A) (hg : w.grownBy w' q) (hq : some k ≠ q) : Bo w' k A :=
 ⟨Nat.lt_of_lt_of_le h.1 hg.size, fun i u hi => by rw [bK hg h.1 hq]; exact h.2.1 i u hi, fun i hi => by
  have := hg.block k h.1 hq
  have e : w'.frozen? ⟨k, i, none⟩ = w.frozen? ⟨k, i, none⟩ := by simp only [World.frozen?]; rw [this]
  rw [e]; exact h.2.2 i hi⟩
def inT (l : Int) : Bool := decide (-1000000000000 ≤ l ∧ l ≤ 1000000000000)
def apB (h : Bool) (l : Int) : Bool := inT l && (h || (l == 0))
theorem em (h : Bool) (l : Int) (w : World) : Calls Tryz.prog 91 #[.agg #[.bool h, .int .i64 l]] w fun e w' => e = .returned (.bool (apB h l)) ∧ Below w.heap.size w w' := by
 have A := Below.nw w (.cells #[.bool h, .int .i64 l] 95)
 have N := Bx2.new w (.bool h) (.int .i64 l) 95
 have C1 := fun w' => al l (-1000000000000) 1000000000000 w'
 unfold apB
 have e0 : decide (-1000000000000 ≤ l ∧ l ≤ 1000000000000) = inT l := rfl
 rw [e0] at C1
 clear e0
 generalize inT l = q at *
 cases q
 ·go_enter Tryz.func91, Tryz.ntmps91
  go_upto_region 1 with fail
  generalize w.alloc (.cells #[.bool h, .int .i64 l] 95) = v at *
  have n0 : _ ∧ _ := N
  go_wp2_with fail
  refine (C1 _).mono ?_
  rintro e w' ⟨rfl, rfl⟩
  go_wp2_with fail
  go_ret
  exact ⟨rfl, A⟩
 ·cases h
  ·cases hz : (l == 0)
   all_goals
    go_enter Tryz.func91, Tryz.ntmps91
    go_upto_region 1 with fail
    generalize w.alloc (.cells #[.bool false, .int .i64 l] 95) = v at *
    have n0 : _ ∧ _ := N
    go_wp2_with fail
    refine (C1 _).mono ?_
    rintro e w' ⟨rfl, rfl⟩
    go_wp2_with fail
    go_ret
    exact ⟨by first | rfl | (rw [hz]; rfl) | (simp; done), A⟩
  ·go_enter Tryz.func91, Tryz.ntmps91
   go_upto_region 1 with fail
   generalize w.alloc (.cells #[.bool true, .int .i64 l] 95) = v at *
   have n0 : _ ∧ _ := N
   go_wp2_with fail
   refine (C1 _).mono ?_
   rintro e w' ⟨rfl, rfl⟩
   go_wp2_with fail
   go_ret
   exact ⟨rfl, A⟩
theorem bs {P : Program} (w : World) (base : Nat) (t ty e : TypeId) (i : TypeInfo) (z : Value) (size bytes : Nat) (ht : P.underlying t = some (.slice e)) (hi : P.info? e = some i) (hz : i.zero = some z)
 (hsize : i.size = size) (hby : i.bytes = bytes) (hzs : z.cells.size = size) (hsz : 0 < size)
 (v : Value) (n : Nat) (xs : List Value) (hown : w.ownsRow base e size v n xs)
 (a : Addr) (m c : Nat) (news : List Value) (hl : news.length = m * size) (hnews : ∀ j u, news[j]? = some u → w.cell? (a.add j) = some u) (h1 : ∀ u ∈ news, u.oneCell' = true)
 (h63 : n + m ≤ maxLen) (hbytes : (n + m) * bytes ≤ 140737488355328) (hbase : base ≤ w.heap.size) :
 ∃ v' w', (Builtin.append_ #[t, t] ty #[v, .slice (some a) m c]).run P w = .ok v' w' ∧ w'.ownsRow base e size v' (n + m) (xs ++ news) ∧ w.grownBy w' v.ownBlock ∧ (∀ g, v'.ownBlock = some g → v.ownBlock = some g ∨ w.heap.size ≤ g) := by
 obtain ⟨v', w', hr, h2, h3, _⟩ := run_append_own (P := P) w base t ty e i z size bytes ht hi hz hsize hby hzs hsz v n xs hown a m c news hl hnews h1 h63 hbytes hbase
 refine ⟨v', w', hr, h2, h3, ?_⟩
 subst hsize
 subst hby
 intro g0 hg0
 have hsmall : n + m ≤ 9223372036854775807 := by simp only [maxLen] at h63; omega
 rcases hown.2 with ⟨rfl, rfl⟩ | ⟨g, cap, cur, rfl, hbg, hg, hnc, hcm, hcs, htake⟩
 ·by_cases hm : m = 0
  ·subst hm
   obtain ⟨v2, w2, hr2, _, _, h4⟩ := run_append_own (P := P) w base t ty e i z i.size i.bytes ht hi hz rfl rfl hzs hsz _ 0 xs hown a 0 c news hl hnews h1 h63 hbytes hbase
   rw [hr] at hr2
   injection hr2 with e1 _
   rw [e1, h4.2 ⟨rfl, rfl⟩] at hg0
   simp [Value.ownBlock] at hg0
  ·have hr2 := run_append_nil (P := P) w t ty e i z ht hi hz a m c news hl hnews (by omega) (by omega) (by have hb := hbytes; simp only [Nat.zero_add] at hb; omega)
   rw [hr] at hr2
   injection hr2 with e1 _
   rw [e1] at hg0
   simp [Value.ownBlock] at hg0
   exact .inr (by omega)
 ·by_cases hroom : n + m ≤ cap
  ·have hfit : n * i.size + news.length ≤ cur.size := by rw [hl, hcs, ← Nat.add_mul]; exact Nat.mul_le_mul_right _ hroom
   have hr2 := run_append_room (P := P) w t ty e i ht hi g n cap cur hg a m c news hl hnews h1 hroom hfit
   rw [hr] at hr2
   injection hr2 with e1 _
   rw [e1] at hg0
   exact .inl hg0
  ·have holds : ∀ j u, xs[j]? = some u → w.cell? ((⟨g, 0, none⟩ : Addr).add j) = some u := hown.cells (g := g) rfl
   have hr2 := run_append_grow (P := P) w t ty e i z ht hi hz ⟨g, 0, none⟩ n cap xs hown.1 holds a m c news hl hnews (by omega) (by omega) (growslice_fits (by omega) hbytes)
   rw [hr] at hr2
   injection hr2 with e1 _
   rw [e1] at hg0
   simp [Value.ownBlock] at hg0
   exact .inr (by omega)
theorem aG {P : Program} {w : World} {ops : Array Oper} {rest : List Oper} {o : Oper} {a : Act} {Q : Exit → Act → World → Prop} (hgd : o.guard = none) (s x : Operand) (t : TypeId)
 (ho : o.op = .call { callee := .builtin .append, args := #[s, x], argTypes := #[t, t] })
 (base : Nat) (e : TypeId) (i : TypeInfo) (z : Value) (size bytes : Nat) (ht : P.underlying t = some (.slice e)) (hi : P.info? e = some i) (hz : i.zero = some z)
 (hsize : i.size = size) (hby : i.bytes = bytes) (hzs : z.cells.size = size) (hsz : 0 < size)
 (v : Value) (n : Nat) (xs : List Value) (hs : a.eval s = v) (hown : w.ownsRow base e size v n xs)
 (ad : Addr) (m c : Nat) (news : List Value) (hx : a.eval x = .slice (some ad) m c) (hl : news.length = m * size) (hnews : ∀ j u, news[j]? = some u → w.cell? (ad.add j) = some u) (h1 : ∀ u ∈ news, u.oneCell' = true)
 (h63 : n + m ≤ maxLen) (hbytes : (n + m) * bytes ≤ 140737488355328) (hbase : base ≤ w.heap.size)
 (h : ∀ v' w', w'.ownsRow base e size v' (n + m) (xs ++ news) → w.grownBy w' v.ownBlock → (∀ g, v'.ownBlock = some g → v.ownBlock = some g ∨ w.heap.size ≤ g) → wpList P ops Q rest (a.put o.dst v') w') : wpList P ops Q (o :: rest) a w := by
 refine wpList_plain hgd fun _ hK => ?_
 obtain ⟨v', w', hr, h2, h3, h4⟩ := bs (P := P) w base t o.type e i z size bytes ht hi hz hsize hby hzs hsz v n xs hown ad m c news hl hnews h1 h63 hbytes hbase
 unfold Oper.wp execOp
 simp only [ho, resolve, invoke, builtin, Sem.run_bind, Sem.run_pure, Result.andThen_ok, List.map_toArray, List.map_cons, List.map_nil, hs, hx, hr]
 exact hK _ _ (h v' w' h2 h3 h4)
theorem jw : (Tryz.prog.info? 3).map (fun i => (i.zero, i.size, i.bytes)) = some (some (.int .i64 0), 1, 8) := by kernel_rfl
theorem kt (w : World) (p : Int) (T : TypeId) : ∀ j u, [.int .i64 p][j]? = some u → (w.alloc (.cells #[.int .i64 p] T)).cell? ((⟨w.heap.size, 0, none⟩ : Addr).add j) = some u := by
 intro j u h
 match j, h with
 | 0, h => simp at h; subst h; simp [Addr.add]
theorem eJ {w : World} {ops : Array Oper} {rest : List Oper} {o : Oper} {a : Act} {Q : Exit → Act → World → Prop} {p : Int} (hgd : o.guard = none) (s x : Operand)
 (ho : o.op = .call { callee := .builtin .append, args := #[s, x], argTypes := #[30, 30] }) (base : Nat) (L : List Int) (v : Value) (hs : a.eval s = v) (hown : w.ownsRow base 3 1 v L.length (bC L))
 (hx : a.eval x = .slice (some ⟨w.heap.size, 0, none⟩) 1 1) (hL : L.length ≤ 64) (hbase : base ≤ w.heap.size)
 (h : ∀ v' w', w'.ownsRow base 3 1 v' (L ++ [p]).length (bC (L ++ [p])) → w.grownBy w' v.ownBlock → (∀ g, v'.ownBlock = some g → v.ownBlock = some g ∨ w.heap.size ≤ g) → wpList Tryz.prog ops Q rest (a.put o.dst v') w') :
 wpList Tryz.prog ops Q (o :: rest) a (w.alloc (.cells #[.int .i64 p] 3)) := by
 obtain ⟨i0, hi, hz0, hz1, hz2⟩ := info_parts jw
 refine aG hgd s x 30 ho base 3 i0 (.int .i64 0) 1 8 Tryz.underlying30 hi hz0 hz1 hz2 rfl (by decide) v L.length (bC L) hs (World.ownsRow.alloc hown _) ⟨w.heap.size, 0, none⟩ 1 1 [.int .i64 p] hx rfl (kt w p 3) (by intro u hu; simp at hu; subst hu; rfl) (by unfold maxLen; omega) (by omega) (by simp; omega) ?_
 intro v' w' h1 h2 h3
 refine h v' w' (by rw [i6, List.length_append]; exact h1) ?_ (fun g hg => ?_)
 ·exact ⟨h2.os, h2.tape, h2.output, Nat.le_trans (by simp) h2.size, fun k hk hne => (h2.block k (by simp; omega) hne).trans ((World.grownBy_alloc w _ none).block k hk (by simp))⟩
 ·rcases h3 g hg with q | q
  ·exact .inl q
  ·exact .inr (by simp at q; omega)
def Bx3 (w : World) (j : Nat) (u0 u1 u2 : Value) : Prop := j < w.heap.size ∧ w.cell? ⟨j, 0, none⟩ = some u0 ∧ w.cell? ⟨j, 1, none⟩ = some u1 ∧ w.cell? ⟨j, 2, none⟩ = some u2 ∧ w.frozen? ⟨j, 0, none⟩ = false ∧ w.frozen? ⟨j, 1, none⟩ = false ∧ w.frozen? ⟨j, 2, none⟩ = false
theorem Bx3.below {w w' : World} {j : Nat} {u0 u1 u2 : Value} (h : Bx3 w j u0 u1 u2) (hb : Below w.heap.size w w') : Bx3 w' j u0 u1 u2 := by
 obtain ⟨h0, h1, h2, h3, h4, h5, h6⟩ := h
 exact ⟨Nat.lt_of_lt_of_le h0 hb.size, by rw [hb.cell (p := ⟨j, 0, none⟩) h0]; exact h1, by rw [hb.cell (p := ⟨j, 1, none⟩) h0]; exact h2, by rw [hb.cell (p := ⟨j, 2, none⟩) h0]; exact h3, by rw [hb.frozen (p := ⟨j, 0, none⟩) h0]; exact h4, by rw [hb.frozen (p := ⟨j, 1, none⟩) h0]; exact h5, by rw [hb.frozen (p := ⟨j, 2, none⟩) h0]; exact h6⟩
theorem Bx3.drew {w : World} {j : Nat} {u0 u1 u2 : Value} (h : Bx3 w j u0 u1 u2) : Bx3 w.drew j u0 u1 u2 := h
theorem Bx3.new (w : World) (u0 u1 u2 : Value) (T : TypeId) : Bx3 (w.alloc (.cells #[u0, u1, u2] T)) w.heap.size u0 u1 u2 := ⟨by simp, by simp, by simp, by simp, by simp, by simp, by simp⟩
def ew (w : World) (ad : Addr) (M : Nat → KT) (n : Nat) : Prop := n = 0 ∨ (ad.spot = none ∧ Cs w ad.block ad.off (n * 4) (aA M))
theorem ew.below {w w' : World} {ad : Addr} {M : Nat → KT} {n : Nat} (h : ew w ad M n) (hb : Below w.heap.size w w') : ew w' ad M n := by
 rcases h with h | ⟨hs, h⟩
 ·exact .inl h
 ·exact .inr ⟨hs, h.below hb h.1⟩
theorem ew.src {w : World} {ad : Addr} {M : Nat → KT} {n : Nat} (h : ew w ad M n) : ae w (some ad) (n * 4) (aA M) := by
 rcases h with h | ⟨hs, h⟩
 ·exact .inl (by omega)
 ·obtain ⟨b, off, s⟩ := ad
  simp only at hs h
  subst hs
  exact .inr ⟨b, off, rfl, h⟩
def dl (w : World) (A : Option Addr) (M : Nat → KT) (n c : Nat) : Prop := (A = none ∧ n = 0 ∧ c = 0) ∨ ∃ ad, A = some ad ∧ ew w ad M n
theorem dl.below {w w' : World} {A : Option Addr} {M : Nat → KT} {n c : Nat} (h : dl w A M n c) (hb : Below w.heap.size w w') : dl w' A M n c := by
 rcases h with h | ⟨ad, e, h⟩
 ·exact .inl h
 ·exact .inr ⟨ad, e, h.below hb⟩
theorem dl.src {w : World} {A : Option Addr} {M : Nat → KT} {n c : Nat} (h : dl w A M n c) : ae w A (n * 4) (aA M) := by
 rcases h with ⟨_, h, _⟩ | ⟨ad, rfl, h⟩
 ·exact .inl (by omega)
 ·exact h.src
theorem gv (w : World) (T : TypeId) : ∀ (us : List Value) (Z : Array Value) (o : Nat), ah (w.alloc (.cells Z T)) w.heap.size o us = w.alloc (.cells (spl Z o us) T)
 | [], _, _ => rfl
 | u :: us, Z, o => by
  rw [ah, World.setCell_alloc_new]
  exact gv w T us _ (o + 1)
theorem aY {P : Program} (w : World) (Z U : Array Value) (T : TypeId) (hz : U.size = Z.size) (hu : ∀ u ∈ U.toList, u.oneCell' = true) :
 (storeCells ⟨w.heap.size, 0, none⟩ U.toList).run P (w.alloc (.cells Z T)) = .ok () (w.alloc (.cells U T)) := by
 rw [Bo.store (P := P) U.toList (w := w.alloc (.cells Z T)) (A := Z) 0 0 (Bo.new w Z T) rfl (by simp; omega) hu, gv, eF Z U hz]
theorem iR (h : Bool) (l : Int) (w : World) : Calls Tryz.prog 198 #[.agg #[.bool h, .int .i64 l]] w fun e w' => e = .returned (.bool (apB h l)) ∧ Below w.heap.size w w' := by
 have A := Below.nw w (.cells #[.bool h, .int .i64 l] 95)
 by_cases h1 : -1000000000000 ≤ l
 ·by_cases h2 : l ≤ 1000000000000
  ·have e0 : apB h l = (h || (l == 0)) := by unfold apB inT; rw [decide_eq_true ⟨h1, h2⟩]; rfl
   rw [e0]
   clear e0
   cases h
   ·cases hz : (l == 0)
    all_goals
     go_enter Tryz.func198, Tryz.ntmps198
     go_wp2
     go_ret
     exact ⟨by first | rfl | (rw [hz]; rfl) | (simp; done), A⟩
   ·go_enter Tryz.func198, Tryz.ntmps198
    go_wp2
    go_ret
    exact ⟨rfl, A⟩
  ·have e0 : apB h l = false := by unfold apB inT; rw [decide_eq_false (by omega)]; rfl
   rw [e0]
   clear e0
   go_enter Tryz.func198, Tryz.ntmps198
   go_wp2
   go_ret
   exact ⟨rfl, A⟩
 ·have e0 : apB h l = false := by unfold apB inT; rw [decide_eq_false (by omega)]; rfl
  rw [e0]
  clear e0
  go_enter Tryz.func198, Tryz.ntmps198
  go_wp2
  go_ret
  exact ⟨rfl, A⟩
end Go.Proofs.YtddijpjgkifngaaGreat
