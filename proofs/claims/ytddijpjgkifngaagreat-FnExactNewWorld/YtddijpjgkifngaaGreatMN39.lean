/- A new world copied; NewWorld in the program. -/
import Derived.Test.YtddijpjgkifngaaGreatMN38
namespace Go.Proofs.YtddijpjgkifngaaGreat
open Go.RowKit
set_option linter.unusedVariables false
set_option maxRecDepth 100000
set_option maxHeartbeats 16000000
theorem fp {w : World} {k o : Nat} {u : Value} (h : w.cell? ⟨k, o, none⟩ = some u) : w.setCell ⟨k, o, none⟩ u = w := by
 have e : ∀ (f : Obj → Obj), (∀ ob, w.heap[k]? = some ob → f ob = ob) → w.heap.modify k f = w.heap := by
  intro f hf
  apply Array.ext_getElem?
  intro i
  rw [Array.getElem?_modify]
  by_cases hi : k = i
  ·subst hi
   rw [if_pos rfl]
   cases hk : w.heap[k]? with
   | none => rfl
   | some ob => rw [Option.map_some, hf ob hk]
  ·rw [if_neg hi]
 unfold World.setCell
 rw [e]
 intro ob hob
 simp only [World.cell?, hob] at h
 cases ob with
 | cells c T fr =>
  simp only [Option.isSome_none, Bool.false_eq_true, if_false] at h ⊢
  congr 1
  apply Array.ext_getElem?
  intro j
  rw [Array.getElem?_setIfInBounds]
  by_cases hj : o = j
  ·subst hj
   have ho : o < c.size := by
    rcases Nat.lt_or_ge o c.size with q | q
    ·exact q
    ·rw [Array.getElem?_eq_none q] at h; cases h
   rw [if_pos rfl, if_pos ho, h]
  ·rw [if_neg hj]
 | _ => cases h
theorem eC {k : Nat} : ∀ (us : List Value) {w : World} {o : Nat}, (∀ j u, us[j]? = some u → w.cell? ⟨k, o + j, none⟩ = some u) → ah w k o us = w
 | [], _, _, _ => rfl
 | u :: us, w, o, h => by
  have h0 := h 0 u rfl
  rw [Nat.add_zero] at h0
  rw [ah, fp h0]
  exact eC us fun j v hv => by rw [show o + 1 + j = o + (j + 1) by omega]; exact h (j + 1) v hv
theorem Rwo.box {w : World} {lo hi : Nat} {T : TypeId} {sz : Nat} {a : Option Addr} {n c : Nat} {F : Nat → Value} (h : Rwo w lo hi T sz a n c F) (hn : n ≠ 0) : ∃ g cur, a = some ⟨g, 0, none⟩ ∧ Bo w g cur ∧ n * sz ≤ cur.size ∧ lo ≤ g ∧ g < hi ∧ ∀ j, j < n * sz → w.cell? ⟨g, j, none⟩ = some (F j) := by
 rcases h.1.2 with ⟨_, q⟩ | ⟨g, cap, cur, e, h1, h2, h3, h4, h5, h6⟩
 ·exact absurd q hn
 ·injection e with e1 e2 e3
  have hb := Array.getElem?_eq_some_iff.1 h2
  have hg : (Value.slice a n c).ownBlock = some g := by rw [e1]; rfl
  refine ⟨g, cur, e1, ⟨hb.1, fun i u hu => by simp [World.cell?, h2, hu], fun i hi => by simp [World.frozen?, h2]⟩, by rw [h5]; exact Nat.mul_le_mul_right _ h3, h1, h.2 g hg, fun j hj => ?_⟩
  have q := World.ownsRow.cells h.1 hg j (F j) (by simp [hj])
  rw [aU, Nat.zero_add] at q
  exact q
def NwO (w : World) (lo hi : Nat) (A : Array Value) (y : CfX) (n : Nat) (LB : Nat → Bool) : Prop := ∃ p d la lc ca cc na nk l1 l2 l3, A = #[.int .i64 y.dn, .int .i64 y.dd, .int .i64 y.li, .int .i64 y.le, .int .i64 y.pt, .int .i64 y.ag, .int .i64 y.ke, .int .i64 y.lg, .int .i64 y.s, .int .i64 y.g, .slice p y.m d, .slice la n lc, .int .i64 0, .slice ca n cc, .slice na n nk, .int .i64 0, .slice none 0 0, .slice none 0 0] ∧ y.m ≤ 1048576 ∧ n ≤ 1048576 ∧ (lo ≤ l1 ∧ l1 ≤ l2 ∧ l2 ≤ l3 ∧ l3 ≤ hi ∧ hi ≤ w.heap.size) ∧ Rwo w lo l1 173 2 p y.m d (ak y.PM) ∧ Rwo w l1 l2 4 1 la n lc (boG LB) ∧ Rwo w l2 l3 3 1 ca n cc (itG fun _ => 0) ∧ Rwo w l3 hi 98 16 na n nk nzF
def NwQ (w : World) (lo hi : Nat) (A : Array Value) (x : WdX) : Prop := ∃ y n LB, x = nwX y n LB ∧ NwO w lo hi A y n LB
theorem bE (w : World) (lo hi : Nat) (T : TypeId) (sz : Nat) (F : Nat → Value) : Rwo w lo hi T sz none 0 0 F := ⟨⟨by simp, .inl ⟨rfl, rfl⟩⟩, fun g e => by cases e⟩
theorem jW (w : World) (lo : Nat) (h : lo ≤ w.heap.size) : NwQ w lo w.heap.size #[.int .i64 0, .int .i64 0, .int .i64 0, .int .i64 0, .int .i64 0, .int .i64 0, .int .i64 0, .int .i64 0, .int .i64 0, .int .i64 0, .slice none 0 0, .slice none 0 0, .int .i64 0, .slice none 0 0, .slice none 0 0, .int .i64 0, .slice none 0 0, .slice none 0 0] zwX :=
 ⟨_, _, _, rfl, none, 0, none, 0, none, 0, none, 0, lo, lo, lo, rfl, Nat.zero_le _, Nat.zero_le _, ⟨Nat.le_refl _, Nat.le_refl _, Nat.le_refl _, h, Nat.le_refl _⟩, bE _ _ _ _ _ _, bE _ _ _ _ _ _, bE _ _ _ _ _ _, bE _ _ _ _ _ _⟩
theorem NwO.wd {w : World} {lo hi : Nat} {A : Array Value} {y : CfX} {n : Nat} {LB : Nat → Bool} (h : NwO w lo hi A y n LB) : WdW w A (nwX y n LB) := by
 obtain ⟨p, d, la, lc, ca, cc, na, nk, l1, l2, l3, rfl, hm, hn, -, h1, h2, h3, h4⟩ := h
 exact fm hm hn h1.srcC h2.srcC h3.srcC h4.srcC
theorem kA (y : CfX) (n : Nat) (LB : Nat → Bool) (hn : n ≤ 8) : wfWd (nwX y n LB) := ⟨fun i hi j hj => absurd hj (Nat.not_lt_zero _), fun i hi => absurd hi (Nat.not_lt_zero _)⟩
theorem iV (w : World) : Calls Tryz.prog 161 #[.slice none 0 0] w fun e w' => e = .returned (.slice none 0 0) ∧ w = w' := by
 have qT : ∀ (w : World) (a : Option Addr) (n c n' c' : Nat), (binOp .eql 90 (.slice a n c) (.slice none n' c')).run Tryz.prog w = .ok (.bool a.isNone) w := fun w a n c n' c' => Lib.run_eql_slice_nil w _ _ a n c n' c' Tryz.underlying90
 go_enter Tryz.func161, Tryz.ntmps161
 go_wp2_with fail
 go_ret
 exact ⟨rfl, rfl⟩
theorem iW (w : World) : Calls Tryz.prog 162 #[.slice none 0 0] w fun e w' => e = .returned (.slice none 0 0) ∧ w = w' := by
 have qT : ∀ (w : World) (a : Option Addr) (n c n' c' : Nat), (binOp .eql 93 (.slice a n c) (.slice none n' c')).run Tryz.prog w = .ok (.bool a.isNone) w := fun w a n c n' c' => Lib.run_eql_slice_nil w _ _ a n c n' c' Tryz.underlying93
 go_enter Tryz.func162, Tryz.ntmps162
 go_wp2_with fail
 go_ret
 exact ⟨rfl, rfl⟩
theorem iX (w : World) : Calls Tryz.prog 163 #[.slice none 0 0] w fun e w' => e = .returned (.slice none 0 0) ∧ w = w' := by
 have qT : ∀ (w : World) (a : Option Addr) (n c n' c' : Nat), (binOp .eql 96 (.slice a n c) (.slice none n' c')).run Tryz.prog w = .ok (.bool a.isNone) w := fun w a n c n' c' => Lib.run_eql_slice_nil w _ _ a n c n' c' Tryz.underlying96
 go_enter Tryz.func163, Tryz.ntmps163
 go_wp2_with fail
 go_ret
 exact ⟨rfl, rfl⟩
theorem iY (w : World) : Calls Tryz.prog 114 #[.slice none 0 0] w fun e w' => e = .returned (.slice none 0 0) ∧ w = w' := by
 have qT : ∀ (w : World) (a : Option Addr) (n c n' c' : Nat), (binOp .eql 47 (.slice a n c) (.slice none n' c')).run Tryz.prog w = .ok (.bool a.isNone) w := fun w a n c n' c' => Lib.run_eql_slice_nil w _ _ a n c n' c' Tryz.underlying47
 go_enter Tryz.func114, Tryz.ntmps114
 go_wp2_with fail
 go_ret
 exact ⟨rfl, rfl⟩
theorem iZ (w : World) : Calls Tryz.prog 115 #[.slice none 0 0] w fun e w' => e = .returned (.slice none 0 0) ∧ w = w' := by
 have qT : ∀ (w : World) (a : Option Addr) (n c n' c' : Nat), (binOp .eql 50 (.slice a n c) (.slice none n' c')).run Tryz.prog w = .ok (.bool a.isNone) w := fun w a n c n' c' => Lib.run_eql_slice_nil w _ _ a n c n' c' Tryz.underlying50
 go_enter Tryz.func115, Tryz.ntmps115
 go_wp2_with fail
 go_ret
 exact ⟨rfl, rfl⟩
attribute [-go_sem] loadCells storeCells in
theorem i2 (i : Int) (w : World) : Calls Tryz.prog 113 #[.agg (nzA i)] w fun e w' => e = .returned (.agg (nzA i)) ∧ Below w.heap.size w w' := by
 show Calls Tryz.prog 113 #[.agg (ndV (zX (nwN i) 0 0 0 0 (nwS i)) none 0 none 0 none 0)] w _
 have A0 := Below.nw w (.cells (ndV (zX (nwN i) 0 0 0 0 (nwS i)) none 0 none 0 none 0) 98)
 have A1 := Below.nw (w.alloc (.cells (ndV (zX (nwN i) 0 0 0 0 (nwS i)) none 0 none 0 none 0) 98)) (.cells #[.int .i64 0, .int .i64 0, .int .i64 0, .int .i64 0, .bool false, .int .i64 0, .int .i64 0, .int .i64 0, .int .i64 0, .int .i64 0, .slice none 0 0, .slice none 0 0, .bool false, .int .i64 0, .slice none 0 0, .int .i64 0] 98)
 have N := (Bo.new w (ndV (zX (nwN i) 0 0 0 0 (nwS i)) none 0 none 0 none 0) 98).below A1
 have R := Bo.new (w.alloc (.cells (ndV (zX (nwN i) 0 0 0 0 (nwS i)) none 0 none 0 none 0) 98)) #[.int .i64 0, .int .i64 0, .int .i64 0, .int .i64 0, .bool false, .int .i64 0, .int .i64 0, .int .i64 0, .int .i64 0, .int .i64 0, .slice none 0 0, .slice none 0 0, .bool false, .int .i64 0, .slice none 0 0, .int .i64 0] 98
 have B := A0
 replace B := B.trans (A1.mono B.size)
 simp only [World.size_alloc] at R
 clear A0 A1
 go_enter Tryz.func113, Tryz.ntmps113
 go_upto_region 1 with fail
 generalize ((w.alloc (.cells (ndV (zX (nwN i) 0 0 0 0 (nwS i)) none 0 none 0 none 0) 98))).alloc (.cells #[.int .i64 0, .int .i64 0, .int .i64 0, .int .i64 0, .bool false, .int .i64 0, .int .i64 0, .int .i64 0, .int .i64 0, .int .i64 0, .slice none 0 0, .slice none 0 0, .bool false, .int .i64 0, .slice none 0 0, .int .i64 0] 98) = v0 at *
 have hL0 : v0.cell? ⟨w.heap.size, 10, none⟩ = some (.slice none 0 0) := N.cell rfl
 go_wp2_with fail
 refine (iV v0).mono ?_
 rintro e wn ⟨rfl, rfl⟩
 clear hL0
 have hst := Bo.store (P := Tryz.prog) (b := 10) [.slice none 0 0] 10 0 N rfl (show 10 + 1 ≤ 16 by decide) (List.forall_mem_cons.2 ⟨rfl, fun _ h => nomatch h⟩)
 have hb : Btw (w.heap.size) (w.heap.size + 1) v0 (ah v0 (w.heap.size) 10 [.slice none 0 0]) := af [.slice none 0 0] v0 10 (w.heap.size)
 have B1 := ai (k := w.heap.size) [.slice none 0 0] w v0 10 B (by omega)
 have N1 : Bo (ah v0 (w.heap.size) 10 [.slice none 0 0]) (w.heap.size) ((ndV (zX (nwN i) 0 0 0 0 (nwS i)) none 0 none 0 none 0)) := Bo.put [.slice none 0 0] 10 N
 go_upto_region 2 with (rw [hst])
 clear hst  N B
 replace R := R.btw hb (by omega)
 clear hb
 generalize ah v0 (w.heap.size) 10 [.slice none 0 0] = v1 at *
 have B := B1
 have N := N1
 clear B1 N1
 have hL0 : v1.cell? ⟨w.heap.size, 11, none⟩ = some (.slice none 0 0) := N.cell rfl
 go_wp2_with fail
 refine (iW v1).mono ?_
 rintro e wn ⟨rfl, rfl⟩
 clear hL0
 have hst := Bo.store (P := Tryz.prog) (b := 11) [.slice none 0 0] 11 0 N rfl (show 11 + 1 ≤ 16 by decide) (List.forall_mem_cons.2 ⟨rfl, fun _ h => nomatch h⟩)
 have hb : Btw (w.heap.size) (w.heap.size + 1) v1 (ah v1 (w.heap.size) 11 [.slice none 0 0]) := af [.slice none 0 0] v1 11 (w.heap.size)
 have B1 := ai (k := w.heap.size) [.slice none 0 0] w v1 11 B (by omega)
 have N1 : Bo (ah v1 (w.heap.size) 11 [.slice none 0 0]) (w.heap.size) ((ndV (zX (nwN i) 0 0 0 0 (nwS i)) none 0 none 0 none 0)) := Bo.put [.slice none 0 0] 11 N
 go_upto_region 3 with (rw [hst])
 clear hst  N B
 replace R := R.btw hb (by omega)
 clear hb
 generalize ah v1 (w.heap.size) 11 [.slice none 0 0] = v2 at *
 have B := B1
 have N := N1
 clear B1 N1
 have hL0 : v2.cell? ⟨w.heap.size, 14, none⟩ = some (.slice none 0 0) := N.cell rfl
 go_wp2_with fail
 refine (iX v2).mono ?_
 rintro e wn ⟨rfl, rfl⟩
 clear hL0
 have hst := Bo.store (P := Tryz.prog) (b := 14) [.slice none 0 0] 14 0 N rfl (show 14 + 1 ≤ 16 by decide) (List.forall_mem_cons.2 ⟨rfl, fun _ h => nomatch h⟩)
 have hb : Btw (w.heap.size) (w.heap.size + 1) v2 (ah v2 (w.heap.size) 14 [.slice none 0 0]) := af [.slice none 0 0] v2 14 (w.heap.size)
 have B1 := ai (k := w.heap.size) [.slice none 0 0] w v2 14 B (by omega)
 have N1 : Bo (ah v2 (w.heap.size) 14 [.slice none 0 0]) (w.heap.size) ((ndV (zX (nwN i) 0 0 0 0 (nwS i)) none 0 none 0 none 0)) := Bo.put [.slice none 0 0] 14 N
 go_upto_region 4 with (rw [hst])
 clear hst  N B
 replace R := R.btw hb (by omega)
 clear hb
 generalize ah v2 (w.heap.size) 14 [.slice none 0 0] = v3 at *
 have B := B1
 have N := N1
 clear B1 N1
 have hU : (ndV (zX (nwN i) 0 0 0 0 (nwS i)) none 0 none 0 none 0).size = 16 := rfl
 have hUl : 0 + (ndV (zX (nwN i) 0 0 0 0 (nwS i)) none 0 none 0 none 0).toList.length ≤ 16 := by simp [hU]
 have hL0 := N.load (P := Tryz.prog) (show ((ndV (zX (nwN i) 0 0 0 0 (nwS i)) none 0 none 0 none 0) : Array Value).size = 16 from rfl)
 have hst := Bo.store (P := Tryz.prog) (b := 0) ((ndV (zX (nwN i) 0 0 0 0 (nwS i)) none 0 none 0 none 0).toList) 0 0 R rfl hUl (bX _ _ _ _ _ _ _)
 have hb : Btw (w.heap.size + 1) (w.heap.size + 1 + 1) v3 _ := af ((ndV (zX (nwN i) 0 0 0 0 (nwS i)) none 0 none 0 none 0).toList) v3 0 (w.heap.size + 1)
 have B1 := ai (k := w.heap.size + 1) ((ndV (zX (nwN i) 0 0 0 0 (nwS i)) none 0 none 0 none 0).toList) w v3 0 B (by omega)
 have N1 : Bo (ah v3 (w.heap.size + 1) 0 ((ndV (zX (nwN i) 0 0 0 0 (nwS i)) none 0 none 0 none 0).toList)) (w.heap.size + 1) ((ndV (zX (nwN i) 0 0 0 0 (nwS i)) none 0 none 0 none 0)) := R.putW (U := (ndV (zX (nwN i) 0 0 0 0 (nwS i)) none 0 none 0 none 0)) hU
 go_wp2_with (first | rw [hL0] | rw [hst])
 clear hst hL0 R B
 replace N := N.btw hb (by omega)
 clear hb
 generalize ah v3 (w.heap.size + 1) 0 ((ndV (zX (nwN i) 0 0 0 0 (nwS i)) none 0 none 0 none 0).toList) = v4 at *
 have B := B1
 have R := N1
 clear B1 N1
 have hL0 := R.load (P := Tryz.prog) hU
 exact bodyPost_ret (v := .agg (ndV (zX (nwN i) 0 0 0 0 (nwS i)) none 0 none 0 none 0)) (by simp [results, Tryz.results113, go_sem]; rw [hL0]; rfl) rfl ⟨rfl, B⟩
end Go.Proofs.YtddijpjgkifngaaGreat
