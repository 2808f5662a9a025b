/- What the draws of chapter 2 leave: a drift, a count. The laws own ways to tell two ops alike. FnLine: the walk. -/
import Derived.Test.YtddjiamollfplaaGreatDoorML42
import Derived.Test.YtddjiamollfplaaGreatDoorML43
import Derived.Test.YtddjiamollfplaaGreatDoorML45
namespace Go.Proofs.YtddjiamollfplaaGreatDoor
open Go.RowKit
set_option linter.unusedVariables false
set_option maxHeartbeats 400000 in
theorem big_any (a : Option Addr) (n c : Nat) (w : World) :
 Calls Tryz.prog 5 #[.slice a n c] w fun e w' => e = .returned (.bool (decide (1048576 < (n : Int)))) ∧ w = w' := by
 go_enter Tryz.func5, Tryz.ntmps5
 go_wp2
 go_ret
 exact ⟨rfl, rfl⟩
end Go.Proofs.YtddjiamollfplaaGreatDoor
namespace Go.Proofs.YtddjiamollfplaaGreatDoor
open Go.RowKit
set_option linter.unusedVariables false

set_option maxHeartbeats 4000000 in
theorem sameInts_some (b off b' off' n c c' : Nat) (f : Nat → Int) (w : World) (hn : n ≤ maxLen) (hf : Cs w b off n (itG f)) (hg : Cs w b' off' n (itG f)) :
 Calls Tryz.prog 33 #[.slice (some ⟨b, off, none⟩) n c, .slice (some ⟨b', off', none⟩) n c'] w fun e w' => e = .returned (.bool true) ∧ Below w.heap.size w w' := by
 unfold maxLen at hn
 have HF : Hid (Cs w b off n (itG f)) := hf
 have HG : Hid (Cs w b' off' n (itG f)) := hg
 clear hf hg
 go_enter Tryz.func33, Tryz.ntmps33
 go_wp2_with fail
 go_loopw [5] (fun i wr => ∃ k : Nat, k ≤ n ∧ i = .int .i64 k ∧ Below w.heap.size w wr) (fun i _ => n - (intOf i).toNat)
 case atStart => exact ⟨0, Nat.zero_le _, rfl, Below.refl _ _⟩
 case round =>
  obtain ⟨k, hk, rfl, hB⟩ := hrel
  by_cases hlt : k < n
  ·have c0 : wr.cell? ⟨b, off + k, none⟩ = some (.int .i64 (f k)) := (HF.out.below hB HF.out.1).2 k hlt
   have d0 : wr.cell? ⟨b', off' + k, none⟩ = some (.int .i64 (f k)) := (HG.out.below hB HG.out.1).2 k hlt
   have hsz := hB.size
   have hli : (k : Int) < (n : Int) := by omega
   go_wp2_with fail
   go_region
   all_goals go_wp2_with fail
   all_goals go_roundw
   all_goals first | (case rel => exact ⟨k + 1, by omega, by go_num, Below.drew hB⟩) | skip
   all_goals first | (case measure => simp [intOf]; omega) | skip
  ·go_wp2_with fail
   go_ret
   exact ⟨rfl, hB⟩
set_option maxHeartbeats 400000 in
theorem sameInts_zero (a a' : Option Addr) (c c' : Nat) (w : World) :
 Calls Tryz.prog 33 #[.slice a 0 c, .slice a' 0 c'] w fun e w' => e = .returned (.bool true) ∧ Below w.heap.size w w' := by
 go_enter Tryz.func33, Tryz.ntmps33
 go_wp2_with fail
 go_loopw [5] (fun i wr => i = .int .i64 0 ∧ w = wr) (fun i _ => 0)
 case atStart => exact ⟨rfl, by first | rfl | trivial⟩
 case round =>
  obtain ⟨rfl, rfl⟩ := hrel
  go_wp2_with fail
  go_ret
  exact ⟨rfl, Below.refl _ _⟩
theorem sameInts_src (a a' : Option Addr) (n c c' : Nat) (f : Nat → Int) (w : World) (hn : n ≤ maxLen) (h : SrcC w a n (itG f)) (h' : SrcC w a' n (itG f)) :
 Calls Tryz.prog 33 #[.slice a n c, .slice a' n c'] w fun e w' => e = .returned (.bool true) ∧ Below w.heap.size w w' := by
 by_cases h0 : n = 0
 ·subst h0; exact sameInts_zero a a' c c' w
 ·rcases h with h | ⟨b, off, rfl, hp⟩
  ·exact absurd h h0
  ·rcases h' with h | ⟨b', off', rfl, hp'⟩
   ·exact absurd h h0
   ·exact sameInts_some b off b' off' n c c' f w hn hp hp'
set_option maxHeartbeats 4000000 in
theorem sameOp_same (k nd tt a b : Int) (tx : ByteArray) (p p' : Option Addr) (n c c' : Nat) (f : Nat → Int) (w : World) (hn : n ≤ maxLen) (h : SrcC w p n (itG f)) (h' : SrcC w p' n (itG f)) :
 Calls Tryz.prog 10 #[.agg #[.int .i64 k, .int .i64 nd, .int .i64 tt, .int .i64 a, .int .i64 b, .string tx, .slice p n c], .agg #[.int .i64 k, .int .i64 nd, .int .i64 tt, .int .i64 a, .int .i64 b, .string tx, .slice p' n c']] w fun e w' => e = .returned (.bool true) ∧ Below w.heap.size w w' := by
 have A0 := (Below.nw w (.cells #[.int .i64 k, .int .i64 nd, .int .i64 tt, .int .i64 a, .int .i64 b, .string tx, .slice p n c] 26)).alloc (by simp) (.cells #[.int .i64 k, .int .i64 nd, .int .i64 tt, .int .i64 a, .int .i64 b, .string tx, .slice p' n c'] 26)
 have C := sameInts_src p p' n c c' f _ hn (h.below A0) (h'.below A0)
 clear h h'
 go_enter Tryz.func10, Tryz.ntmps10
 go_wp2_with fail
 refine C.mono ?_
 rintro e w1 ⟨rfl, hb⟩
 go_wp2_with fail
 go_ret
 exact ⟨rfl, A0.trans (hb.mono A0.size)⟩
theorem srcC_like {w : World} {a : Option Addr} {n : Nat} {f g : Nat → Int} (h : SrcC w a n (itG f)) (he : ∀ i, i < n → f i = g i) : SrcC w a n (itG g) := by
 rcases h with h | ⟨b, off, h1, h2, h3⟩
 ·exact .inl h
 ·exact .inr ⟨b, off, h1, h2, fun j hj => by rw [h3 j hj]; unfold itG; rw [he j hj]⟩
theorem sameOp_x {X Y : OpD} (h : SameO X Y) (p p' : Option Addr) (c c' : Nat) (w : World) (hn : X.n ≤ maxLen) (hX : SrcC w p X.n (itG X.f)) (hY : SrcC w p' Y.n (itG Y.f)) :
 Calls Tryz.prog 10 #[.agg (opV X p c), .agg (opV Y p' c')] w fun e w' => e = .returned (.bool true) ∧ Below w.heap.size w w' := by
 obtain ⟨k, nd, tt, a, b, tx, n, f⟩ := X
 obtain ⟨k2, nd2, tt2, a2, b2, tx2, n2, f2⟩ := Y
 obtain ⟨h1, h2, h3, h4, h5, h6, h7, h8⟩ := h
 simp only at h1 h2 h3 h4 h5 h6 h7 h8 hn hX hY
 subst h1 h2 h3 h4 h5 h6 h7
 exact sameOp_same k nd tt a b tx p p' n c c' f2 w hn (srcC_like hX h8) hY

end Go.Proofs.YtddjiamollfplaaGreatDoor
namespace Go.Proofs.YtddjiamollfplaaGreatDoor
open Go.RowKit
set_option linter.unusedVariables false

theorem paS_few8 (s : ByteArray) : (paS s).1.n ≤ 8 ∧ (paS s).1.tx.size ≤ maxLen := by
 unfold paS paW
 (repeat' split) <;> first | exact ⟨Nat.zero_le _, Nat.zero_le _⟩ | (rename_i h; exact ⟨(ol_facts h).1, Nat.le_trans (ol_facts h).2.1 (by decide)⟩)
theorem paS_zero {s : ByteArray} : (paS s).2 ≠ 0 → (paS s).1 = zOp0 := by
 unfold paS paW
 (repeat' split) <;> intro h <;> first | rfl | exact absurd rfl h
theorem DrawOpLine_x (a : Option Addr) (n c : Nat) (w : World) (hn : n ≤ 1048576) (hcode : CodeB w w.heap.size a n) :
 Calls Tryz.prog 6 #[.slice a n c] w fun e w' => ∃ (X : OpD) (p : Option Addr) (c : Nat), e = .returned (.agg (opV X p c)) ∧ X.tx.size ≤ 100 ∧ X.n ≤ 8 ∧ LsO w' p X.n c X.f ∧ Below w.heap.size w w' :=
 (DrawOpLine_any a n c w hn hcode).mono fun e w' ⟨k, nd, tt, a, b, tx, P, L, c, he, hx, hm, ho, hb⟩ => ⟨⟨k, nd, tt, a, b, tx, L.length, gI L⟩, P, c, he, hx, hm, own_lso ho, hb⟩
attribute [-go_sem] loadCells storeCells in
set_option maxRecDepth 100000 in
set_option maxHeartbeats 16000000 in
theorem walkLine (a : Option Addr) (n c : Nat) (w : World) (E0 : T10 w ∧ ErC w 3 ∧ ErC w 2 ∧ OpW w) (hcode : CodeB w w.heap.size a n) :
 Calls Tryz.prog 3 #[.slice a n c] w fun e w' => e = .returned (.bool true) ∧ Below w.heap.size w w' := by
 have HE : Hid (T10 w ∧ ErC w 3 ∧ ErC w 2 ∧ OpW w) := E0
 clear E0
 by_cases hbig : (1048576 : Int) < (n : Int)
 ·go_enter Tryz.func3, Tryz.ntmps3
  go_wp2_with fail
  refine (big_any _ _ _ _).mono ?_
  rintro e w' ⟨rfl, rfl⟩
  go_wp2_with fail
  go_ret
  exact ⟨rfl, Below.refl _ _⟩
 have hd : decide ((1048576 : Int) < (n : Int)) = false := by simp; omega
 have hn : n ≤ 1048576 := by omega
 have HC : Hid (CodeB w w.heap.size a n) := hcode
 clear hcode hbig
 go_enter Tryz.func3, Tryz.ntmps3
 go_wp2_with fail
 refine (big_any _ _ _ _).mono ?_
 rintro e w' ⟨rfl, rfl⟩
 go_wp2_with fail
 refine (DrawOpLine_x a n c _ hn HC.out).mono ?_
 rintro e v1 ⟨X0, p0, c0, rfl, hx0, hn0, S0, B⟩
 have CI0 : ∀ v : World, Below w.heap.size w v → LsO v p0 X0.n c0 X0.f → Calls Tryz.prog 7 #[.agg (opV X0 p0 c0)] v fun e w' => e = .returned (.tuple #[.string (oL X0), .bool (oB X0)]) ∧ Below v.heap.size v w' := fun v h S => implOpLine_any X0.k X0.nd X0.tt X0.a X0.b X0.tx p0 X0.n c0 X0.f v (HE.out.1.below h) (HE.out.2.2.2.below h) (by unfold maxLen; omega) (by unfold maxLen; omega) S
 have CO0 : ∀ v : World, LsO v p0 X0.n c0 X0.f → Calls Tryz.prog 8 #[.agg (opV X0 p0 c0)] v fun e w' => e = .returned (.bool (oB X0)) ∧ Below v.heap.size v w' := fun v S => specOpOk_any X0.k X0.nd X0.tt X0.a X0.b X0.tx p0 X0.n c0 X0.f v (by unfold maxLen; omega) (by unfold maxLen; omega) S.src
 have CP0 : ∀ v : World, Below w.heap.size w v → Calls Tryz.prog 9 #[.string (oL X0)] v fun e w' => ∃ p c, e = .returned (.tuple #[.agg (opV (paS (oL X0)).1 p c), .int .i64 (paS (oL X0)).2]) ∧ RwA w' v.heap.size p (paS (oL X0)).1.n c (paS (oL X0)).1.f ∧ Below v.heap.size v w' := fun v h => implParse_any (oL X0) v ⟨HE.out.1.below h, HE.out.2.1.below h, HE.out.2.2.1.below h⟩ (HE.out.2.2.2.below h) (by have := oL_size X0; unfold maxLen; omega)
 have HBK : Hid (oB X0 = true → (paS (oL X0)).2 = 0 ∧ SameO (paS (oL X0)).1 X0) := op_back
 generalize paS (oL X0) = Y at *
 generalize oL X0 = s0 at *
 generalize oB X0 = b0 at *
 generalize hA0 : opV X0 p0 c0 = A0 at *
 have HA0 : Hid (A0 = opV X0 p0 c0) := hA0.symm
 have hs0 : A0.size = 7 := by (rw [← hA0]; rfl)
 have ho0 := opV_one X0 p0 c0
 rw [hA0] at ho0
 have O0 := Bo.new v1 #[.int .i64 0, .int .i64 0, .int .i64 0, .int .i64 0, .int .i64 0, .string ⟨#[]⟩, .slice none 0 0] 26
 have hst : (storeCells ⟨v1.heap.size, 0, none⟩ A0.toList 0).run Tryz.prog (v1.alloc (.cells #[.int .i64 0, .int .i64 0, .int .i64 0, .int .i64 0, .int .i64 0, .string ⟨#[]⟩, .slice none 0 0] 26)) = .ok () (putA (v1.alloc (.cells #[.int .i64 0, .int .i64 0, .int .i64 0, .int .i64 0, .int .i64 0, .string ⟨#[]⟩, .slice none 0 0] 26)) v1.heap.size 0 A0.toList) := Bo.store (P := Tryz.prog) (b := 0) A0.toList 0 0 O0 rfl (by simp [hs0]) ho0
 replace O0 := O0.putW (U := A0) (by rw [hs0]; rfl)
 have hb := putA_below (k := v1.heap.size) A0.toList v1 _ 0 (Below.nw v1 (.cells #[.int .i64 0, .int .i64 0, .int .i64 0, .int .i64 0, .int .i64 0, .string ⟨#[]⟩, .slice none 0 0] 26)) (Nat.le_refl _)
 clear hA0 ho0
 replace B := B.trans (hb.mono B.size)
 replace S0 := S0.below hb
 clear hb
 go_upto_region 4 with (rw [hst])
 clear hst
 generalize putA (v1.alloc (.cells #[.int .i64 0, .int .i64 0, .int .i64 0, .int .i64 0, .int .i64 0, .string ⟨#[]⟩, .slice none 0 0] 26)) v1.heap.size 0 A0.toList = v2 at *
 generalize v1.heap.size = k0 at *
 have hL0 := O0.load (P := Tryz.prog) hs0
 go_wp2_with (rw [hL0])
 (try go_simp)
 (try go_wp2_with fail)
 refine (CI0 v2 B S0).mono ?_
 rintro e v3 ⟨rfl, hb⟩
 clear CI0 hL0
 replace B := B.trans (hb.mono B.size)
 replace S0 := S0.below hb
 replace O0 := O0.below hb
 clear hb
 have hL0 := O0.load (P := Tryz.prog) hs0
 go_wp2_with (rw [hL0])
 (try go_simp)
 (try go_wp2_with fail)
 refine (CO0 v3 S0).mono ?_
 rintro e v4 ⟨rfl, hb⟩
 clear CO0 hL0
 replace B := B.trans (hb.mono B.size)
 replace S0 := S0.below hb
 replace O0 := O0.below hb
 clear hb
 cases b0
 ·clear CP0 HBK S0 O0
  have HCv : CodeB v4 v4.heap.size a n := (HC.out.below B).more B.size
  go_wp2_with fail
  refine (DrawParseOp_any a n c _ hn HCv).mono ?_
  rintro e u1 ⟨s, rfl, hs, hb⟩
  clear HCv
  replace B := B.trans (hb.mono B.size)
  clear hb
  have CP : ∀ v : World, Below w.heap.size w v → Calls Tryz.prog 9 #[.string s] v fun e w' => ∃ p c, e = .returned (.tuple #[.agg (opV (paS s).1 p c), .int .i64 (paS s).2]) ∧ RwA w' v.heap.size p (paS s).1.n c (paS s).1.f ∧ Below v.heap.size v w' := fun v h => implParse_any s v ⟨HE.out.1.below h, HE.out.2.1.below h, HE.out.2.2.1.below h⟩ (HE.out.2.2.2.below h) (by unfold maxLen; omega)
  have CS : ∀ v : World, Calls Tryz.prog 12 #[.string s] v fun e w' => ∃ p c, e = .returned (.tuple #[.agg (opV (paS s).1 p c), .int .i64 (paS s).2]) ∧ LsA w' v.heap.size p (paS s).1.n c (paS s).1.f ∧ Below v.heap.size v w' := fun v => specParse_any s v (by unfold maxLen; omega)
  have HLB : Hid ((paS s).2 = 0 → oB (paS s).1 = true ∧ oL (paS s).1 = s) := fun h => line_back (Prod.ext rfl h)
  have HZ : Hid ((paS s).2 ≠ 0 → (paS s).1 = zOp0) := paS_zero
  have hn8 := paS_few8 s
  generalize (paS s).1 = X at *
  generalize (paS s).2 = cd at *
  have HN : Hid (X.n ≤ 8 ∧ X.tx.size ≤ maxLen) := hn8
  clear hn8
  have hcc : (cd != cd) = false := by simp
  go_wp2_with fail
  refine (CP u1 B).mono ?_
  rintro e u2 ⟨p5, c5, rfl, S5, hb⟩
  clear CP
  replace B := B.trans (hb.mono B.size)
  clear hb
  generalize hA5 : opV X p5 c5 = A5 at *
  have HA5 : Hid (A5 = opV X p5 c5) := hA5.symm
  have hs5 : A5.size = 7 := by (rw [← hA5]; rfl)
  have ho5 := opV_one X p5 c5
  rw [hA5] at ho5
  have O5 := Bo.new u2 #[.int .i64 0, .int .i64 0, .int .i64 0, .int .i64 0, .int .i64 0, .string ⟨#[]⟩, .slice none 0 0] 26
  have hst : (storeCells ⟨u2.heap.size, 0, none⟩ A5.toList 0).run Tryz.prog (u2.alloc (.cells #[.int .i64 0, .int .i64 0, .int .i64 0, .int .i64 0, .int .i64 0, .string ⟨#[]⟩, .slice none 0 0] 26)) = .ok () (putA (u2.alloc (.cells #[.int .i64 0, .int .i64 0, .int .i64 0, .int .i64 0, .int .i64 0, .string ⟨#[]⟩, .slice none 0 0] 26)) u2.heap.size 0 A5.toList) := Bo.store (P := Tryz.prog) (b := 0) A5.toList 0 0 O5 rfl (by simp [hs5]) ho5
  replace O5 := O5.putW (U := A5) (by rw [hs5]; rfl)
  have hb := putA_below (k := u2.heap.size) A5.toList u2 _ 0 (Below.nw u2 (.cells #[.int .i64 0, .int .i64 0, .int .i64 0, .int .i64 0, .int .i64 0, .string ⟨#[]⟩, .slice none 0 0] 26)) (Nat.le_refl _)
  clear hA5 ho5
  replace B := B.trans (hb.mono B.size)
  replace S5 := S5.below hb
  clear hb
  go_upto_region 13 with (rw [hst])
  clear hst
  generalize putA (u2.alloc (.cells #[.int .i64 0, .int .i64 0, .int .i64 0, .int .i64 0, .int .i64 0, .string ⟨#[]⟩, .slice none 0 0] 26)) u2.heap.size 0 A5.toList = u3 at *
  generalize u2.heap.size = k5 at *
  go_wp2_with fail
  refine (CS u3).mono ?_
  rintro e u4 ⟨p6, c6, rfl, S6, hb⟩
  clear CS S6
  replace B := B.trans (hb.mono B.size)
  replace S5 := S5.below hb
  replace O5 := O5.below hb
  clear hb
  generalize hA6 : opV X p6 c6 = A6 at *
  have HA6 : Hid (A6 = opV X p6 c6) := hA6.symm
  have hs6 : A6.size = 7 := by (rw [← hA6]; rfl)
  have ho6 := opV_one X p6 c6
  rw [hA6] at ho6
  have O6 := Bo.new u4 #[.int .i64 0, .int .i64 0, .int .i64 0, .int .i64 0, .int .i64 0, .string ⟨#[]⟩, .slice none 0 0] 26
  have hst : (storeCells ⟨u4.heap.size, 0, none⟩ A6.toList 0).run Tryz.prog (u4.alloc (.cells #[.int .i64 0, .int .i64 0, .int .i64 0, .int .i64 0, .int .i64 0, .string ⟨#[]⟩, .slice none 0 0] 26)) = .ok () (putA (u4.alloc (.cells #[.int .i64 0, .int .i64 0, .int .i64 0, .int .i64 0, .int .i64 0, .string ⟨#[]⟩, .slice none 0 0] 26)) u4.heap.size 0 A6.toList) := Bo.store (P := Tryz.prog) (b := 0) A6.toList 0 0 O6 rfl (by simp [hs6]) ho6
  replace O6 := O6.putW (U := A6) (by rw [hs6]; rfl)
  have hb := putA_below (k := u4.heap.size) A6.toList u4 _ 0 (Below.nw u4 (.cells #[.int .i64 0, .int .i64 0, .int .i64 0, .int .i64 0, .int .i64 0, .string ⟨#[]⟩, .slice none 0 0] 26)) (Nat.le_refl _)
  clear hA6 ho6
  replace B := B.trans (hb.mono B.size)
  replace S5 := S5.below hb
  replace O5 := O5.below hb
  clear hb
  go_upto_region 14 with (rw [hst])
  clear hst
  generalize putA (u4.alloc (.cells #[.int .i64 0, .int .i64 0, .int .i64 0, .int .i64 0, .int .i64 0, .string ⟨#[]⟩, .slice none 0 0] 26)) u4.heap.size 0 A6.toList = u5 at *
  generalize u4.heap.size = k6 at *
  clear O6 HA6
  have hL5 := O5.load (P := Tryz.prog) hs5
  by_cases hc : cd = 0
  ·subst hc
   obtain ⟨hB, hLn⟩ := HLB.out rfl
   have CI : Calls Tryz.prog 7 #[.agg A5] u5 fun e w' => e = .returned (.tuple #[.string s, .bool true]) ∧ Below u5.heap.size u5 w' := by
    rw [HA5.out]
    have q := implOpLine_any X.k X.nd X.tt X.a X.b X.tx p5 X.n c5 X.f u5 (HE.out.1.below B) (HE.out.2.2.2.below B) HN.out.2 (Nat.le_trans HN.out.1 (by decide)) S5.lsa.ls
    rw [show olO X.k X.nd X.tt X.a X.b X.tx X.n X.f = s from hLn, show opB X.k X.nd X.tt X.a X.b X.tx X.n X.f = true from hB] at q
    exact q
   clear HLB HZ hLn
   have HB : Hid (oB X = true) := hB
   clear hB
   go_wp2_with (rw [hL5])
   (try go_simp)
   (try go_wp2_with fail)
   refine CI.mono ?_
   rintro e u6 ⟨rfl, hb⟩
   clear CI hL5
   replace B := B.trans (hb.mono B.size)
   replace S5 := S5.below hb
   replace O5 := O5.below hb
   clear hb
   have hL5 := O5.load (P := Tryz.prog) hs5
   have CK : Calls Tryz.prog 13 #[.agg A5] u6 fun e w' => e = .returned (.bool true) ∧ Below u6.heap.size u6 w' := by
    rw [HA5.out]
    have q := implOpOk_any X.k X.nd X.tt X.a X.b X.tx p5 X.n c5 X.f u6 HN.out.2 (Nat.le_trans HN.out.1 (by decide)) S5.lsa.ls.src
    rw [show opB X.k X.nd X.tt X.a X.b X.tx X.n X.f = true from HB.out] at q
    exact q
   go_wp2_with (rw [hL5])
   (try go_simp)
   (try go_wp2_with fail)
   refine CK.mono ?_
   rintro e u7 ⟨rfl, hb⟩
   replace B := B.trans (hb.mono B.size)
   go_wp2_with fail
   go_ret
   exact ⟨rfl, B⟩
  ·have hX0 := HZ.out hc
   subst hX0
   have hq : (cd != 0) = true := by simp [hc]
   have hq2 : ¬ cd = 0 := hc
   have CE : Calls Tryz.prog 10 #[.agg A5, .agg #[.int .i64 0, .int .i64 0, .int .i64 0, .int .i64 0, .int .i64 0, .string ⟨#[]⟩, .slice none 0 0]] u5 fun e w' => e = .returned (.bool true) ∧ Below u5.heap.size u5 w' := by
    rw [HA5.out]
    exact sameOp_x (X := zOp0) (Y := zOp0) ⟨rfl, rfl, rfl, rfl, rfl, rfl, rfl, fun _ _ => rfl⟩ p5 none c5 0 u5 (Nat.zero_le _) (.inl rfl) (.inl rfl)
   clear HLB HZ
   go_wp2_with (rw [hL5])
   (try go_simp)
   (try go_wp2_with fail)
   refine CE.mono ?_
   rintro e u6 ⟨rfl, hb⟩
   replace B := B.trans (hb.mono B.size)
   go_wp2_with fail
   go_ret
   exact ⟨rfl, B⟩
 ·obtain ⟨hy2, hy⟩ := HBK.out rfl
  rw [hy2] at CP0
  obtain ⟨Y1, Y2⟩ := Y
  simp only at hy CP0
  have HY : Hid (SameO Y1 X0) := hy
  have hY7 : Y1.n = X0.n := hy.2.2.2.2.2.2.1
  clear hy hy2 HBK
  go_wp2_with fail
  refine (CP0 v4 B).mono ?_
  rintro e v5 ⟨p1, c1, rfl, S1, hb⟩
  clear CP0
  replace B := B.trans (hb.mono B.size)
  replace S0 := S0.below hb
  replace O0 := O0.below hb
  clear hb
  generalize hA1 : opV Y1 p1 c1 = A1 at *
  have HA1 : Hid (A1 = opV Y1 p1 c1) := hA1.symm
  have hs1 : A1.size = 7 := by (rw [← hA1]; rfl)
  have ho1 := opV_one Y1 p1 c1
  rw [hA1] at ho1
  have O1 := Bo.new v5 #[.int .i64 0, .int .i64 0, .int .i64 0, .int .i64 0, .int .i64 0, .string ⟨#[]⟩, .slice none 0 0] 26
  have hst : (storeCells ⟨v5.heap.size, 0, none⟩ A1.toList 0).run Tryz.prog (v5.alloc (.cells #[.int .i64 0, .int .i64 0, .int .i64 0, .int .i64 0, .int .i64 0, .string ⟨#[]⟩, .slice none 0 0] 26)) = .ok () (putA (v5.alloc (.cells #[.int .i64 0, .int .i64 0, .int .i64 0, .int .i64 0, .int .i64 0, .string ⟨#[]⟩, .slice none 0 0] 26)) v5.heap.size 0 A1.toList) := Bo.store (P := Tryz.prog) (b := 0) A1.toList 0 0 O1 rfl (by simp [hs1]) ho1
  replace O1 := O1.putW (U := A1) (by rw [hs1]; rfl)
  have hb := putA_below (k := v5.heap.size) A1.toList v5 _ 0 (Below.nw v5 (.cells #[.int .i64 0, .int .i64 0, .int .i64 0, .int .i64 0, .int .i64 0, .string ⟨#[]⟩, .slice none 0 0] 26)) (Nat.le_refl _)
  clear hA1 ho1
  replace B := B.trans (hb.mono B.size)
  replace S0 := S0.below hb
  replace O0 := O0.below hb
  replace S1 := S1.below hb
  clear hb
  go_upto_region 9 with (rw [hst])
  clear hst
  generalize putA (v5.alloc (.cells #[.int .i64 0, .int .i64 0, .int .i64 0, .int .i64 0, .int .i64 0, .string ⟨#[]⟩, .slice none 0 0] 26)) v5.heap.size 0 A1.toList = v6 at *
  generalize v5.heap.size = k1 at *
  have hL1 := O1.load (P := Tryz.prog) hs1
  have hL0 := O0.load (P := Tryz.prog) hs0
  have CE : Calls Tryz.prog 10 #[.agg A1, .agg A0] v6 fun e w' => e = .returned (.bool true) ∧ Below v6.heap.size v6 w' := by
   rw [HA1.out, HA0.out]
   exact sameOp_x HY.out p1 p0 c1 c0 v6 (by unfold maxLen; omega) S1.lsa.ls.src S0.src
  go_wp2_with (first | rw [hL1] | rw [hL0])
  (try go_simp)
  (try go_wp2_with fail)
  refine CE.mono ?_
  rintro e v7 ⟨rfl, hb⟩
  clear CE hL1 hL0 O1 O0 S1 S0 HA1 HA0 HY
  replace B := B.trans (hb.mono B.size)
  clear hb
  have HCv : CodeB v7 v7.heap.size a n := (HC.out.below B).more B.size
  go_wp2_with fail
  refine (DrawParseOp_any a n c _ hn HCv).mono ?_
  rintro e u1 ⟨s, rfl, hs, hb⟩
  clear HCv
  replace B := B.trans (hb.mono B.size)
  clear hb
  have CP : ∀ v : World, Below w.heap.size w v → Calls Tryz.prog 9 #[.string s] v fun e w' => ∃ p c, e = .returned (.tuple #[.agg (opV (paS s).1 p c), .int .i64 (paS s).2]) ∧ RwA w' v.heap.size p (paS s).1.n c (paS s).1.f ∧ Below v.heap.size v w' := fun v h => implParse_any s v ⟨HE.out.1.below h, HE.out.2.1.below h, HE.out.2.2.1.below h⟩ (HE.out.2.2.2.below h) (by unfold maxLen; omega)
  have CS : ∀ v : World, Calls Tryz.prog 12 #[.string s] v fun e w' => ∃ p c, e = .returned (.tuple #[.agg (opV (paS s).1 p c), .int .i64 (paS s).2]) ∧ LsA w' v.heap.size p (paS s).1.n c (paS s).1.f ∧ Below v.heap.size v w' := fun v => specParse_any s v (by unfold maxLen; omega)
  have HLB : Hid ((paS s).2 = 0 → oB (paS s).1 = true ∧ oL (paS s).1 = s) := fun h => line_back (Prod.ext rfl h)
  have HZ : Hid ((paS s).2 ≠ 0 → (paS s).1 = zOp0) := paS_zero
  have hn8 := paS_few8 s
  generalize (paS s).1 = X at *
  generalize (paS s).2 = cd at *
  have HN : Hid (X.n ≤ 8 ∧ X.tx.size ≤ maxLen) := hn8
  clear hn8
  have hcc : (cd != cd) = false := by simp
  go_wp2_with fail
  refine (CP u1 B).mono ?_
  rintro e u2 ⟨p5, c5, rfl, S5, hb⟩
  clear CP
  replace B := B.trans (hb.mono B.size)
  clear hb
  generalize hA5 : opV X p5 c5 = A5 at *
  have HA5 : Hid (A5 = opV X p5 c5) := hA5.symm
  have hs5 : A5.size = 7 := by (rw [← hA5]; rfl)
  have ho5 := opV_one X p5 c5
  rw [hA5] at ho5
  have O5 := Bo.new u2 #[.int .i64 0, .int .i64 0, .int .i64 0, .int .i64 0, .int .i64 0, .string ⟨#[]⟩, .slice none 0 0] 26
  have hst : (storeCells ⟨u2.heap.size, 0, none⟩ A5.toList 0).run Tryz.prog (u2.alloc (.cells #[.int .i64 0, .int .i64 0, .int .i64 0, .int .i64 0, .int .i64 0, .string ⟨#[]⟩, .slice none 0 0] 26)) = .ok () (putA (u2.alloc (.cells #[.int .i64 0, .int .i64 0, .int .i64 0, .int .i64 0, .int .i64 0, .string ⟨#[]⟩, .slice none 0 0] 26)) u2.heap.size 0 A5.toList) := Bo.store (P := Tryz.prog) (b := 0) A5.toList 0 0 O5 rfl (by simp [hs5]) ho5
  replace O5 := O5.putW (U := A5) (by rw [hs5]; rfl)
  have hb := putA_below (k := u2.heap.size) A5.toList u2 _ 0 (Below.nw u2 (.cells #[.int .i64 0, .int .i64 0, .int .i64 0, .int .i64 0, .int .i64 0, .string ⟨#[]⟩, .slice none 0 0] 26)) (Nat.le_refl _)
  clear hA5 ho5
  replace B := B.trans (hb.mono B.size)
  replace S5 := S5.below hb
  clear hb
  go_upto_region 13 with (rw [hst])
  clear hst
  generalize putA (u2.alloc (.cells #[.int .i64 0, .int .i64 0, .int .i64 0, .int .i64 0, .int .i64 0, .string ⟨#[]⟩, .slice none 0 0] 26)) u2.heap.size 0 A5.toList = u3 at *
  generalize u2.heap.size = k5 at *
  go_wp2_with fail
  refine (CS u3).mono ?_
  rintro e u4 ⟨p6, c6, rfl, S6, hb⟩
  clear CS S6
  replace B := B.trans (hb.mono B.size)
  replace S5 := S5.below hb
  replace O5 := O5.below hb
  clear hb
  generalize hA6 : opV X p6 c6 = A6 at *
  have HA6 : Hid (A6 = opV X p6 c6) := hA6.symm
  have hs6 : A6.size = 7 := by (rw [← hA6]; rfl)
  have ho6 := opV_one X p6 c6
  rw [hA6] at ho6
  have O6 := Bo.new u4 #[.int .i64 0, .int .i64 0, .int .i64 0, .int .i64 0, .int .i64 0, .string ⟨#[]⟩, .slice none 0 0] 26
  have hst : (storeCells ⟨u4.heap.size, 0, none⟩ A6.toList 0).run Tryz.prog (u4.alloc (.cells #[.int .i64 0, .int .i64 0, .int .i64 0, .int .i64 0, .int .i64 0, .string ⟨#[]⟩, .slice none 0 0] 26)) = .ok () (putA (u4.alloc (.cells #[.int .i64 0, .int .i64 0, .int .i64 0, .int .i64 0, .int .i64 0, .string ⟨#[]⟩, .slice none 0 0] 26)) u4.heap.size 0 A6.toList) := Bo.store (P := Tryz.prog) (b := 0) A6.toList 0 0 O6 rfl (by simp [hs6]) ho6
  replace O6 := O6.putW (U := A6) (by rw [hs6]; rfl)
  have hb := putA_below (k := u4.heap.size) A6.toList u4 _ 0 (Below.nw u4 (.cells #[.int .i64 0, .int .i64 0, .int .i64 0, .int .i64 0, .int .i64 0, .string ⟨#[]⟩, .slice none 0 0] 26)) (Nat.le_refl _)
  clear hA6 ho6
  replace B := B.trans (hb.mono B.size)
  replace S5 := S5.below hb
  replace O5 := O5.below hb
  clear hb
  go_upto_region 14 with (rw [hst])
  clear hst
  generalize putA (u4.alloc (.cells #[.int .i64 0, .int .i64 0, .int .i64 0, .int .i64 0, .int .i64 0, .string ⟨#[]⟩, .slice none 0 0] 26)) u4.heap.size 0 A6.toList = u5 at *
  generalize u4.heap.size = k6 at *
  clear O6 HA6
  have hL5 := O5.load (P := Tryz.prog) hs5
  by_cases hc : cd = 0
  ·subst hc
   obtain ⟨hB, hLn⟩ := HLB.out rfl
   have CI : Calls Tryz.prog 7 #[.agg A5] u5 fun e w' => e = .returned (.tuple #[.string s, .bool true]) ∧ Below u5.heap.size u5 w' := by
    rw [HA5.out]
    have q := implOpLine_any X.k X.nd X.tt X.a X.b X.tx p5 X.n c5 X.f u5 (HE.out.1.below B) (HE.out.2.2.2.below B) HN.out.2 (Nat.le_trans HN.out.1 (by decide)) S5.lsa.ls
    rw [show olO X.k X.nd X.tt X.a X.b X.tx X.n X.f = s from hLn, show opB X.k X.nd X.tt X.a X.b X.tx X.n X.f = true from hB] at q
    exact q
   clear HLB HZ hLn
   have HB : Hid (oB X = true) := hB
   clear hB
   go_wp2_with (rw [hL5])
   (try go_simp)
   (try go_wp2_with fail)
   refine CI.mono ?_
   rintro e u6 ⟨rfl, hb⟩
   clear CI hL5
   replace B := B.trans (hb.mono B.size)
   replace S5 := S5.below hb
   replace O5 := O5.below hb
   clear hb
   have hL5 := O5.load (P := Tryz.prog) hs5
   have CK : Calls Tryz.prog 13 #[.agg A5] u6 fun e w' => e = .returned (.bool true) ∧ Below u6.heap.size u6 w' := by
    rw [HA5.out]
    have q := implOpOk_any X.k X.nd X.tt X.a X.b X.tx p5 X.n c5 X.f u6 HN.out.2 (Nat.le_trans HN.out.1 (by decide)) S5.lsa.ls.src
    rw [show opB X.k X.nd X.tt X.a X.b X.tx X.n X.f = true from HB.out] at q
    exact q
   go_wp2_with (rw [hL5])
   (try go_simp)
   (try go_wp2_with fail)
   refine CK.mono ?_
   rintro e u7 ⟨rfl, hb⟩
   replace B := B.trans (hb.mono B.size)
   go_wp2_with fail
   go_ret
   exact ⟨rfl, B⟩
  ·have hX0 := HZ.out hc
   subst hX0
   have hq : (cd != 0) = true := by simp [hc]
   have hq2 : ¬ cd = 0 := hc
   have CE : Calls Tryz.prog 10 #[.agg A5, .agg #[.int .i64 0, .int .i64 0, .int .i64 0, .int .i64 0, .int .i64 0, .string ⟨#[]⟩, .slice none 0 0]] u5 fun e w' => e = .returned (.bool true) ∧ Below u5.heap.size u5 w' := by
    rw [HA5.out]
    exact sameOp_x (X := zOp0) (Y := zOp0) ⟨rfl, rfl, rfl, rfl, rfl, rfl, rfl, fun _ _ => rfl⟩ p5 none c5 0 u5 (Nat.zero_le _) (.inl rfl) (.inl rfl)
   clear HLB HZ
   go_wp2_with (rw [hL5])
   (try go_simp)
   (try go_wp2_with fail)
   refine CE.mono ?_
   rintro e u6 ⟨rfl, hb⟩
   replace B := B.trans (hb.mono B.size)
   go_wp2_with fail
   go_ret
   exact ⟨rfl, B⟩

end Go.Proofs.YtddjiamollfplaaGreatDoor
