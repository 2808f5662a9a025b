/- What the laws keep; rows of numbers, of intervals and of peers, told by lists. The walk of the exact law of WorldFalse. -/
import Derived.Test.YtddijpjgkifngaaGreatM0
import Derived.Test.YtddijpjgkifngaaGreatM45
namespace Go.Proofs.YtddijpjgkifngaaGreat
open Go.RowKit
set_option linter.unusedVariables false
set_option maxHeartbeats 1600000 in
theorem eqIntS_some (b off b' off' n c c' : Nat) (f : Nat → Int) (w : World) (hn : n ≤ maxLen) (hf : Cs w b off n (fun j => .int .i64 (f j))) (hg : Cs w b' off' n (fun j => .int .i64 (f j))) :
 Calls Tryz.prog 28 #[.slice (some ⟨b, off, none⟩) n c, .slice (some ⟨b', off', none⟩) n c'] w fun e w' => e = .returned (.bool true) ∧ Below w.heap.size w w' := by
 unfold maxLen at hn
 go_enter Tryz.func28, Tryz.ntmps28
 go_wp2_with fail
 go_loopw [5] (fun i wr => ∃ k : Nat, k ≤ n ∧ i = .int .i64 k ∧ Below w.heap.size w wr) (fun i _ => n - (intOf i).toNat)
 case atStart => exact ⟨0, Nat.zero_le _, rfl, Below.refl _ _⟩
 case round =>
  obtain ⟨k, hk, rfl, hB⟩ := hrel
  by_cases hlt : k < n
  ·have c0 : wr.cell? ⟨b, off + k, none⟩ = some (.int .i64 (f k)) := (hf.below hB hf.1).2 k hlt
   have d0 : wr.cell? ⟨b', off' + k, none⟩ = some (.int .i64 (f k)) := (hg.below hB hg.1).2 k hlt
   have hsz := hB.size
   have hli : (k : Int) < (n : Int) := by omega
   go_wp2_with fail
   go_region
   all_goals go_wp2_with fail
   all_goals go_roundw
   all_goals first | (case rel => exact ⟨k + 1, by omega, by go_num, Below.drew hB⟩) | skip
   all_goals first | (case measure => simp [intOf]; omega) | skip
  ·go_wp2_with fail
   go_ret
   exact ⟨rfl, hB⟩
set_option maxHeartbeats 400000 in
theorem eqIntS_zero (a a' : Option Addr) (c c' : Nat) (w : World) :
 Calls Tryz.prog 28 #[.slice a 0 c, .slice a' 0 c'] w fun e w' => e = .returned (.bool true) ∧ Below w.heap.size w w' := by
 go_enter Tryz.func28, Tryz.ntmps28
 go_wp2_with fail
 go_loopw [5] (fun i wr => i = .int .i64 0 ∧ w = wr) (fun i _ => 0)
 case atStart => exact ⟨rfl, rfl⟩
 case round =>
  obtain ⟨rfl, rfl⟩ := hrel
  go_wp2_with fail
  go_ret
  exact ⟨rfl, Below.refl _ _⟩
theorem eqIntS_src (a a' : Option Addr) (n c c' : Nat) (f : Nat → Int) (w : World) (hn : n ≤ maxLen) (h : SrcC w a (n * 1) (MFInt f)) (h' : SrcC w a' (n * 1) (MFInt f)) :
 Calls Tryz.prog 28 #[.slice a n c, .slice a' n c'] w fun e w' => e = .returned (.bool true) ∧ Below w.heap.size w w' := by
 rw [Nat.mul_one] at h h'
 by_cases h0 : n = 0
 ·subst h0; exact eqIntS_zero a a' c c' w
 ·rcases h with h | ⟨b, off, rfl, hp⟩
  ·exact absurd h h0
  ·rcases h' with h | ⟨b', off', rfl, hp'⟩
   ·exact absurd h h0
   ·exact eqIntS_some b off b' off' n c c' f w hn hp hp'
set_option maxHeartbeats 1000000 in
theorem heldIntS_some (b off n c : Nat) (q0 : Int) (w : World) (hn : n ≤ 1048576) (hq : 0 < q0) (hq1 : q0 ≤ 1073741824) (h : Cs w b off n (mkInt q0)) :
 Calls Tryz.prog 30 #[.slice (some ⟨b, off, none⟩) n c, .int .i64 q0] w fun e w' => e = .returned (.int .i64 (q0 + (n : Int))) ∧ w = w' := by
 have HP : Hid (Cs w b off n (mkInt q0)) := h
 clear h
 go_enter Tryz.func30, Tryz.ntmps30
 go_wp2_with fail
 go_loopw [1, 5] (fun q i wr => ∃ (k : Nat) (Q : Int), k ≤ n ∧ i = .int .i64 k ∧ q = .int .i64 Q ∧ Q = q0 + (k : Int) ∧ w = wr) (fun _ i _ => n - (intOf i).toNat)
 case atStart => exact ⟨0, q0, Nat.zero_le _, rfl, rfl, by omega, by first | rfl | trivial⟩
 case round =>
  obtain ⟨k, Q, hk, rfl, rfl, hQ, rfl⟩ := hrel
  have HQ : Hid (Q = q0 + (k : Int)) := hQ
  by_cases hlt : k < n
  ·have hli : (k : Int) < (n : Int) := by omega
   have Q0 : 0 < Q := by omega
   have Q1 : Q ≤ 1073741824 + 1048576 := by omega
   have c0 : w.cell? ⟨b, off + k, none⟩ = some (.int .i64 Q) := by have q := HP.out.2 k hlt; rw [mkInt, ← hQ] at q; exact q
   have hbl := HP.out.1
   clear hQ
   go_wp2_with fail
   go_roundw
   case rel => exact ⟨k + 1, _, by omega, by go_num, rfl, by have := HQ.out; omega, by first | rfl | trivial⟩
   case measure => simp [intOf]; omega
  ·have hkn : k = n := by omega
   subst hkn
   have hli : ¬ (k : Int) < (k : Int) := by omega
   subst hQ
   go_wp2_with fail
   go_ret
   exact ⟨rfl, rfl⟩
set_option maxHeartbeats 400000 in
theorem heldIntS_zero (a : Option Addr) (c : Nat) (q0 : Int) (w : World) :
 Calls Tryz.prog 30 #[.slice a 0 c, .int .i64 q0] w fun e w' => e = .returned (.int .i64 q0) ∧ w = w' := by
 go_enter Tryz.func30, Tryz.ntmps30
 go_wp2_with fail
 go_loopw [1, 5] (fun q i wr => i = .int .i64 0 ∧ q = .int .i64 q0 ∧ w = wr) (fun _ i _ => 0)
 case atStart => exact ⟨rfl, rfl, by first | rfl | trivial⟩
 case round =>
  obtain ⟨rfl, rfl, rfl⟩ := hrel
  go_wp2_with fail
  go_ret
  exact ⟨rfl, rfl⟩
theorem heldIntS_any (a : Option Addr) (n c : Nat) (q0 : Int) (w : World) (hn : n ≤ 1048576) (hq : 0 < q0) (hq1 : q0 ≤ 1073741824) (h : SrcC w a (n * 1) (mkInt q0)) :
 Calls Tryz.prog 30 #[.slice a n c, .int .i64 q0] w fun e w' => e = .returned (.int .i64 (q0 + (n : Int) * 1)) ∧ w = w' := by
 rw [Nat.mul_one] at h
 rw [Int.mul_one]
 rcases h with h0 | ⟨b, off, rfl, hp⟩
 ·subst h0
  exact (heldIntS_zero a c q0 w).mono fun e w' ⟨h1, h2⟩ => ⟨by rw [h1]; simp, h2⟩
 ·exact heldIntS_some b off n c q0 w hn hq hq1 hp
end Go.Proofs.YtddijpjgkifngaaGreat
namespace Go.Proofs.YtddijpjgkifngaaGreat
open Go.RowKit
set_option linter.unusedVariables false
attribute [-go_sem] loadCells storeCells in
set_option maxRecDepth 100000 in
set_option maxHeartbeats 16000000 in
theorem lawWorldFalse (A : Array Value) (x : WdX) (w : World) (HA : WdW w A x) (ht : txW x) (hwf : wfWd x) :
 Calls Tryz.prog 6 #[.agg A] w fun e w' => e = .returned (.bool true) ∧ Below w.heap.size w w' := by
 have B := Below.nw w (.cells A 37)
 have L := Bo.new w A 37
 have hA := HA.size
 have CS := fun (v : World) (hv : Below w.heap.size w v) (R : Array Value) (h : WdS v R x) => specWorldFalseW R x v h ht
 have CP := fun (v : World) (hv : Below w.heap.size w v) (R : Array Value) (h : WdS v R x) => implWorldFalseW R x v h ht hwf
 have CZ := fun (v : World) (h : Below w.heap.size w v) => szWorldU A x v (HA.below h) ht
 have hK8 := wfL_len x
 generalize wfL x = K at *
 have hKn : K.length ≤ 1048576 := by omega
 have hKm : K.length ≤ maxLen := by unfold maxLen; omega
 have HS : Hid (WdW w A x) := HA
 clear HA hwf ht
 go_enter Tryz.func6, Tryz.ntmps6
 go_upto_region 2 with fail
 generalize w.alloc (.cells A 37) = v0 at *
 have hL := L.load (P := Tryz.prog) hA
 go_wp2_with (rw [hL])
 refine (CZ v0 B).mono ?_
 rintro e v01 ⟨Z, rfl, hZ, hb⟩
 clear hL CZ
 replace B := B.trans (hb.mono B.size)
 replace L := L.below hb
 clear hb
 by_cases hz : Z < 0
 ·clear CS CP hZ
  go_wp2_with fail
  go_ret
  exact ⟨rfl, B⟩
 have hsh := hZ (by omega)
 clear hZ
 have CT := fun (v : World) (h : Below w.heap.size w v) => toWorldU A x v (HS.out.below h) hsh
 clear hsh
 generalize v01 = v0 at *
 have hL := L.load (P := Tryz.prog) hA
 go_wp2_with (rw [hL])
 refine (CT v0 B).mono ?_
 rintro e v1 ⟨R0, rfl, O0, hb⟩
 clear hL
 replace B := B.trans (hb.mono B.size)
 replace L := L.below hb
 clear hb
 go_wp2_with fail
 refine (CS v1 B R0 O0.src).mono ?_
 rintro e v2 ⟨u0, rfl, S0, hb⟩
 have S0q : v2.ownsRow v1.heap.size 3 1 u0 K.length ((List.range (K.length * 1)).map (MFInt (gI K))) := S0
 obtain ⟨a0, c0, rfl, -, -, -⟩ := ownF_src S0q
 have W0 := rwo_of S0q
 have y0 : v1.heap.size ≤ v2.heap.size := hb.size
 have b0 : w.heap.size < v1.heap.size := L.1
 clear S0 S0q
 replace B := B.trans (hb.mono B.size)
 replace L := L.below hb
 clear hb
 clear O0 CS
 have hL := L.load (P := Tryz.prog) hA
 go_wp2_with (rw [hL])
 refine (CT v2 B).mono ?_
 rintro e v3 ⟨RX, rfl, OX, hb⟩
 clear hL
 have y5 : v2.heap.size ≤ v3.heap.size := hb.size
 replace B := B.trans (hb.mono B.size)
 replace L := L.below hb
 replace W0 := W0.below hb
 clear hb
 have hRX := OX.src.weak.size
 have hst := storeNew (P := Tryz.prog) v3 (#[.int .i64 0, .int .i64 0, .int .i64 0, .int .i64 0, .int .i64 0, .int .i64 0, .int .i64 0, .int .i64 0, .int .i64 0, .int .i64 0, .slice none 0 0, .slice none 0 0, .int .i64 0, .slice none 0 0, .slice none 0 0, .int .i64 0, .slice none 0 0, .slice none 0 0]) RX 52 (by rw [hRX]; rfl) OX.src.weak.one
 have hb := Below.nw v3 (.cells RX 52)
 have X := Bo.new v3 RX 52
 have y6 : v3.heap.size ≤ (v3.alloc (.cells RX 52)).heap.size := hb.size
 go_upto_region 7 with (rw [hst])
 clear hst
 replace B := B.trans (hb.mono B.size)
 replace L := L.below hb
 replace W0 := W0.below hb
 replace OX := OX.below hb
 clear hb
 generalize v3.alloc (.cells RX 52) = v4 at *
 have hL := X.load (P := Tryz.prog) hRX
 go_wp2_with (rw [hL])
 refine (CP v4 B RX OX.src).mono ?_
 rintro e v5 ⟨u1, rfl, S1, hb⟩
 clear hL
 have S1q : v5.ownsRow v4.heap.size 3 1 u1 K.length ((List.range (K.length * 1)).map (MFInt (gI K))) := S1
 obtain ⟨a1, c1, rfl, -, -, -⟩ := ownF_src S1q
 have W1 := rwo_of S1q
 have y1 : v4.heap.size ≤ v5.heap.size := hb.size
 have b1 : w.heap.size < v4.heap.size := L.1
 clear S1 S1q
 replace B := B.trans (hb.mono B.size)
 replace L := L.below hb
 replace W0 := W0.below hb
 replace OX := OX.below hb
 replace X := X.below hb
 clear hb
 go_wp2_with fail
 refine (eqIntS_src a1 a0 K.length c1 c0 (gI K) v5 hKm W1.srcC W0.srcC).mono ?_
 rintro e v6 ⟨rfl, hb⟩
 have ye : v5.heap.size ≤ v6.heap.size := hb.size
 replace B := B.trans (hb.mono B.size)
 replace L := L.below hb
 replace W0 := W0.below hb
 replace OX := OX.below hb
 replace X := X.below hb
 replace W1 := W1.below hb
 clear hb
 go_upto_region 10 with fail
 have SK : Hid (∀ w', Below v6.heap.size v6 w' → (fun w' => (loadCells ⟨v3.heap.size, 0, none⟩ 18).run Tryz.prog w' = .ok RX w' ∧ (loadCells ⟨w.heap.size, 0, none⟩ 18).run Tryz.prog w' = .ok A w') w') := fun w' hw => ⟨(X.below hw).load hRX, (L.below hw).load hA⟩
 refine wp_region_held_drew (S := (fun w' => (loadCells ⟨v3.heap.size, 0, none⟩ 18).run Tryz.prog w' = .ok RX w' ∧ (loadCells ⟨w.heap.size, 0, none⟩ 18).run Tryz.prog w' = .ok A w')) (by kernel_rfl) ?_ (fun hHeld => ?_)
 ·first | exact SK.out _ XB | exact SK.out _ (Below.drew (Below.refl _ _))
 have XB : Below v6.heap.size v6 v6.drew := Below.drew (Below.refl _ _)
 generalize v6.drew = vx at *
 refine zTk 0 ?_
 refine zTk 1 ?_
 refine wpAnyH_ready (rs := [2]) (by kernel_rfl) (by simp) ?_
 refine AllReadyH.cons (by rw [List.getElem?_toArray]; rfl) (fun Kc hK => ?_) AllReadyH.nil
 go_simp
 refine (CT vx (B.trans (XB.mono B.size))).mono ?_; rintro ee vy ⟨RY, rfl, OY, hbl⟩; (replace XB := XB.trans (hbl.mono XB.size)); (clear hbl); (generalize hvv : vy = vx at *); (clear hvv)
 (try go_wp2_with fail)
 refine hK.out _ _ ?_ (fun hHeld => ?_)
 ·first | exact SK.out _ XB | exact SK.out _ (Below.drew (Below.refl _ _))
 clear hK Kc
 (try simp only [Act.put, zSb, zS0, zS1])
 refine wpAnyH_ready (rs := [3]) (by kernel_rfl) (by simp) ?_
 refine AllReadyH.cons (by rw [List.getElem?_toArray]; rfl) (fun Kc hK => ?_) AllReadyH.nil
 go_simp
 refine (eqWorldW RX RY x vx (OX.below XB).src.weak OY.src.weak).mono ?_; rintro ee vx ⟨rfl, hbl⟩; (replace XB := XB.trans (hbl.mono XB.size)); (clear hbl OY)
 (try go_wp2_with fail)
 refine hK.out _ _ ?_ (fun hHeld => ?_)
 ·first | exact SK.out _ XB | exact SK.out _ (Below.drew (Below.refl _ _))
 clear hK Kc
 (try simp only [Act.put, zSb, zS0, zS1])
 refine zTk 4 ?_
 refine wpAnyH_done (by kernel_rfl) ?_ _
 have hb := XB
 have zx : v6.heap.size ≤ vx.heap.size := XB.size
 clear XB SK
 replace B := B.trans (hb.mono B.size)
 replace L := L.below hb
 replace W0 := W0.below hb
 replace OX := OX.below hb
 replace X := X.below hb
 replace W1 := W1.below hb
 clear hb
 have hL := X.load (P := Tryz.prog) hRX
 go_wp2_with (rw [hL])
 refine (markWorldU RX x v2.heap.size v3.heap.size vx OX).mono ?_
 rintro e v7 ⟨Q, rfl, hQ, hb⟩
 clear hL OX X
 have yx : v5.heap.size ≤ vx.heap.size := by omega
 have zy := hb.2.2.2.1
 replace B := B.trans ((hb.belowL (show v2.heap.size ≤ vx.heap.size by omega)).mono (show w.heap.size ≤ v2.heap.size by omega))
 replace L := L.btw hb (.inl (by omega))
 replace W0 := W0.btw hb (.inl (by omega))
 replace W1 := W1.btw hb (.inr (by omega))
 clear hb
 have hQd : decide (Q < 0) = false := decide_eq_false (by omega)
 have hQn : ¬ Q < 0 := by omega
 go_wp2_with fail
 refine (eqIntS_src a1 a0 K.length c1 c0 (gI K) v7 hKm W1.srcC W0.srcC).mono ?_
 rintro e v8 ⟨rfl, hb⟩
 have zz : v7.heap.size ≤ v8.heap.size := hb.size
 replace B := B.trans (hb.mono B.size)
 replace L := L.below hb
 replace W0 := W0.below hb
 replace W1 := W1.below hb
 clear hb
 clear hQ hQd hQn
 obtain ⟨m, hm⟩ : ∃ z : Int, 1 + (K.length : Int) * 1 = z := ⟨_, rfl⟩
 have HM : Hid (1 + (K.length : Int) * 1 = m) := hm
 have hmd : decide (m < 0) = false := decide_eq_false (by omega)
 have hmn : ¬ m < 0 := by omega
 have hmm : (m != m) = false := by simp
 clear hm
 go_wp2_with fail
 refine (markInt_O K.length c1 v4.heap.size v5.heap.size a1 (MFInt (gI K)) 1 v8 hKn (by decide) (by decide) W1).mono ?_
 rintro e v9 ⟨rfl, M1, hb⟩
 rw [HM.out]
 replace B := B.trans ((hb.belowL (show v4.heap.size ≤ v8.heap.size by omega)).mono (show w.heap.size ≤ v4.heap.size by omega))
 replace L := L.btw hb (.inl (by omega))
 replace W0 := W0.btw hb (.inl (by omega))
 clear hb W1
 go_wp2_with fail
 refine (heldIntS_any a1 K.length c1 1 v9 hKn (by decide) (by decide) M1).mono ?_
 rintro e v10 ⟨rfl, hbw⟩
 subst hbw
 rw [HM.out]
 have hL := L.load (P := Tryz.prog) hA
 go_wp2_with (rw [hL])
 refine (CT v9 B).mono ?_
 rintro e v11 ⟨RZ, rfl, OZ, hb⟩
 clear hL
 replace B := B.trans (hb.mono B.size)
 replace L := L.below hb
 replace W0 := W0.below hb
 replace M1 := M1.below hb
 clear hb
 go_wp2_with fail
 refine (CP v11 B RZ OZ.src).mono ?_
 rintro e v12 ⟨u2, rfl, S2, hb⟩
 have S2q : v12.ownsRow v11.heap.size 3 1 u2 K.length ((List.range (K.length * 1)).map (MFInt (gI K))) := S2
 obtain ⟨a2, c2, rfl, -, -, -⟩ := ownF_src S2q
 have W2 := rwo_of S2q
 have y2 : v11.heap.size ≤ v12.heap.size := hb.size
 have b2 : w.heap.size < v11.heap.size := L.1
 clear S2 S2q
 clear y2 b2
 replace B := B.trans (hb.mono B.size)
 replace L := L.below hb
 replace W0 := W0.below hb
 replace M1 := M1.below hb
 clear hb
 go_wp2_with fail
 refine (eqIntS_src a2 a0 K.length c2 c0 (gI K) v12 hKm W2.srcC W0.srcC).mono ?_
 rintro e v13 ⟨rfl, hb⟩
 replace B := B.trans (hb.mono B.size)
 replace L := L.below hb
 replace W0 := W0.below hb
 replace M1 := M1.below hb
 replace W2 := W2.below hb
 clear hb
 go_wp2_with fail
 refine (heldIntS_any a1 K.length c1 1 v13 hKn (by decide) (by decide) M1).mono ?_
 rintro e v14 ⟨rfl, hbw⟩
 subst hbw
 rw [HM.out]
 go_wp2_with fail
 go_ret
 exact ⟨rfl, B⟩
end Go.Proofs.YtddijpjgkifngaaGreat
