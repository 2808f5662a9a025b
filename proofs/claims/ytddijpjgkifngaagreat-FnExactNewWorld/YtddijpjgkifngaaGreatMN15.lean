/- PlanOk in the specification. CfgOk in the specification. -/
import Derived.Test.YtddijpjgkifngaaGreatMN11
import Derived.Test.YtddijpjgkifngaaGreatMN14
namespace Go.Proofs.YtddijpjgkifngaaGreat
open Go.RowKit
set_option linter.unusedVariables false
set_option maxRecDepth 100000
set_option maxHeartbeats 16000000
theorem dU (s g : Int) (a : Option Addr) (n c : Nat) (M : Nat → SlT) (w : World) (hm : n ≤ maxLen) (hs : ae w a (n * 2) (ak M)) :
 Calls Tryz.prog 83 #[.agg #[.int .i64 s, .int .i64 g, .slice a n c]] w fun e w' => e = .returned (.bool (plB s g M n)) ∧ Below w.heap.size w w' := by
 unfold maxLen at hm
 have B := Below.nw w (.cells #[.int .i64 s, .int .i64 g, .slice a n c] 43)
 have N := Tx3.new w (.int .i64 s) (.int .i64 g) (.slice a n c) 43
 have C1 := fun w' => aE s w'
 have C2 : ∀ w', Calls Tryz.prog 42 #[.int .i64 g, .int .i64 0, .int .i64 100000] w' fun e w'' => e = .returned (.bool (gpB g)) ∧ w' = w'' := fun w' => al g 0 100000 w'
 have C3 : ∀ w', Calls Tryz.prog 42 #[.int .i64 (n : Int), .int .i64 1, .int .i64 12] w' fun e w'' => e = .returned (.bool (cnB n)) ∧ w' = w'' := fun w' => al n 1 12 w'
 cases h1 : okT s
 ·have e0 : plB s g M n = false := by unfold plB; rw [h1]; rfl
  rw [e0]
  clear e0 hs
  go_enter Tryz.func83, Tryz.ntmps83; go_upto_region 1 with fail; generalize w.alloc (.cells #[.int .i64 s, .int .i64 g, .slice a n c] 43) = v at *
  have n0 : _ ∧ _ := N; go_wp2_with fail; refine (C1 _).mono ?_; rintro e w' ⟨rfl, rfl⟩; rw [h1]
  go_wp2_with fail
  go_ret
  exact ⟨rfl, B⟩
 cases h2 : gpB g
 ·have e0 : plB s g M n = false := by unfold plB; rw [h1, h2]; rfl
  rw [e0]
  clear e0 hs
  go_enter Tryz.func83, Tryz.ntmps83; go_upto_region 1 with fail; generalize w.alloc (.cells #[.int .i64 s, .int .i64 g, .slice a n c] 43) = v at *
  have n0 : _ ∧ _ := N; go_wp2_with fail; refine (C1 _).mono ?_; rintro e w' ⟨rfl, rfl⟩; rw [h1]
  go_wp2_with fail; refine (C2 _).mono ?_; rintro e w' ⟨rfl, rfl⟩; rw [h2]
  go_wp2_with fail
  go_ret
  exact ⟨rfl, B⟩
 cases h3 : cnB n
 ·have e0 : plB s g M n = false := by unfold plB; rw [h1, h2, h3]; rfl
  rw [e0]
  clear e0 hs
  go_enter Tryz.func83, Tryz.ntmps83; go_upto_region 1 with fail; generalize w.alloc (.cells #[.int .i64 s, .int .i64 g, .slice a n c] 43) = v at *
  have n0 : _ ∧ _ := N; go_wp2_with fail; refine (C1 _).mono ?_; rintro e w' ⟨rfl, rfl⟩; rw [h1]
  go_wp2_with fail; refine (C2 _).mono ?_; rintro e w' ⟨rfl, rfl⟩; rw [h2]
  go_wp2_with fail; refine (C3 _).mono ?_; rintro e w' ⟨rfl, rfl⟩; rw [h3]
  go_wp2_with fail
  go_ret
  exact ⟨rfl, B⟩
 have e0 : plB s g M n = slA M n := by unfold plB; rw [h1, h2, h3]; rfl
 rw [e0]
 clear e0
 have hn : 1 ≤ (n : Int) ∧ (n : Int) ≤ 12 := of_decide_eq_true h3
 obtain ⟨b, off, rfl, hf⟩ : ∃ b off, a = some ⟨b, off, none⟩ ∧ Cs w b off (n * 2) (ak M) := by
  rcases hs with q | q
  ·exact absurd q (by omega)
  ·exact q
 have HF : Hid (Cs w b off (n * 2) (ak M)) := hf
 clear hf hs
 go_enter Tryz.func83, Tryz.ntmps83; go_upto_region 1 with fail; generalize w.alloc (.cells #[.int .i64 s, .int .i64 g, .slice (some ⟨b, off, none⟩) n c] 43) = v at *
 have n0 : _ ∧ _ := N; go_wp2_with fail; refine (C1 _).mono ?_; rintro e w' ⟨rfl, rfl⟩; rw [h1]
 go_wp2_with fail; refine (C2 _).mono ?_; rintro e w' ⟨rfl, rfl⟩; rw [h2]
 go_wp2_with fail; refine (C3 _).mono ?_; rintro e w' ⟨rfl, rfl⟩; rw [h3]
 clear C1 C2 C3 h1 h2 h3
 clear n0
 go_wp2_with fail
 go_loopw [3] (fun i wr => ∃ (k : Nat), k ≤ n ∧ i = .int .i64 k ∧ slA M k = true ∧ Tx3 wr w.heap.size (.int .i64 s) (.int .i64 g) (.slice (some ⟨b, off, none⟩) n c) ∧ Below w.heap.size w wr) (fun i _ => n - (intOf i).toNat)
 case atStart => exact ⟨0, Nat.zero_le _, rfl, rfl, N, B⟩
 case round =>
  clear N B
  obtain ⟨k, hk, rfl, hA, N, B⟩ := hrel
  by_cases hlt : k < n
  ·obtain ⟨o, l, hM⟩ := di M k
   obtain ⟨c1, c2⟩ := (HF.out.below B HF.out.1).elSlot hlt hM
   have HA : Hid (slA M (k + 1) = (aO o && lnB l)) := by rw [Hid, slA, hA, hM]; rfl
   have HLT : Hid (k < n) := hlt
   have hli : (k : Int) < (n : Int) := by omega
   have C1 := fun w' => an o w'
   have C2 : ∀ w', Calls Tryz.prog 42 #[.int .i64 l, .int .i64 1, .int .i64 1000000] w' fun e w'' => e = .returned (.bool (lnB l)) ∧ w' = w'' := fun w' => al l 1 1000000 w'
   clear hM hA HF
   cases h1 : aO o
   ·have HN : Hid (slA M (k + 1) = false) := by rw [Hid, HA.out, h1]; rfl
    clear HA
    have n0 : _ ∧ _ := N; go_wp2_with fail; refine (C1 _).mono ?_; rintro e w' ⟨rfl, rfl⟩; rw [h1]
    go_wp2_with fail
    go_ret
    exact ⟨ab (ip HN.out HLT.out).symm, B⟩
   cases h2 : lnB l
   ·have HN : Hid (slA M (k + 1) = false) := by rw [Hid, HA.out, h1, h2]; rfl
    clear HA
    have n0 : _ ∧ _ := N; go_wp2_with fail; refine (C1 _).mono ?_; rintro e w' ⟨rfl, rfl⟩; rw [h1]
    go_wp2_with fail; refine (C2 _).mono ?_; rintro e w' ⟨rfl, rfl⟩; rw [h2]
    go_wp2_with fail
    go_ret
    exact ⟨ab (ip HN.out HLT.out).symm, B⟩
   have HT : Hid (slA M (k + 1) = true) := by rw [Hid, HA.out, h1, h2]; rfl
   clear HA
   have n0 : _ ∧ _ := N; go_wp2_with fail; refine (C1 _).mono ?_; rintro e w' ⟨rfl, rfl⟩; rw [h1]
   go_wp2_with fail; refine (C2 _).mono ?_; rintro e w' ⟨rfl, rfl⟩; rw [h2]
   go_wp2_with fail
   go_roundw
   case rel => exact ⟨k + 1, HLT.out, by go_num, HT.out, N, B⟩
   case measure => have hlt' := HLT.out; simp [intOf]; omega
  ·have hkn : k = n := by omega
   subst hkn
   have hli : ¬ (k : Int) < (k : Int) := by omega
   have n0 : _ ∧ _ := N
   go_wp2_with fail
   go_ret
   exact ⟨by first | rfl | exact ab hA.symm, B⟩
theorem eo (dn dd li le pt ag ke lg s g : Int) (p : Option Addr) (m d : Nat) (PM : Nat → SlT) (w : World) (hpm : m ≤ maxLen) (hp : ae w p (m * 2) (ak PM)) :
 Calls Tryz.prog 41 #[.agg #[.int .i64 dn, .int .i64 dd, .int .i64 li, .int .i64 le, .int .i64 pt, .int .i64 ag, .int .i64 ke, .int .i64 lg, .int .i64 s, .int .i64 g, .slice p m d]] w fun e w' => e = .returned (.bool (cfB dn dd li le pt ag ke lg s g PM m)) ∧ Below w.heap.size w w' := by
 have B := Below.nw w (.cells #[.int .i64 dn, .int .i64 dd, .int .i64 li, .int .i64 le, .int .i64 pt, .int .i64 ag, .int .i64 ke, .int .i64 lg, .int .i64 s, .int .i64 g, .slice p m d] 45)
 have C := aB.new w (.int .i64 dn) (.int .i64 dd) (.int .i64 li) (.int .i64 le) (.int .i64 pt) (.int .i64 ag) (.int .i64 ke) (.int .i64 lg) (.int .i64 s) (.int .i64 g) (.slice p m d) 45
 have HP : Hid (ae w p (m * 2) (ak PM)) := hp
 have C1 := fun w' => cW dn dd w'
 have C2 := fun w' h => dU s g p m d PM w' hpm h
 have C3 : ∀ w', Calls Tryz.prog 42 #[.int .i64 li, .int .i64 0, .int .i64 8] w' fun e w'' => e = .returned (.bool (inI li 0 8)) ∧ w' = w'' := fun w' => al li 0 8 w'
 have C4 : ∀ w', Calls Tryz.prog 42 #[.int .i64 le, .int .i64 1, .int .i64 8] w' fun e w'' => e = .returned (.bool (inI le 1 8)) ∧ w' = w'' := fun w' => al le 1 8 w'
 have C5 := fun w' => aE pt w'
 have C6 := fun w' => aE ag w'
 have C7 := fun w' => aE ke w'
 have C8 : ∀ w', Calls Tryz.prog 42 #[.int .i64 lg, .int .i64 1, .int .i64 1000000] w' fun e w'' => e = .returned (.bool (inI lg 1 1000000)) ∧ w' = w'' := fun w' => al lg 1 1000000 w'
 clear hp
 cases h1 : okD dn dd
 ·have e0 : cfB dn dd li le pt ag ke lg s g PM m = false := by unfold cfB; rw [h1]; simp
  rw [e0]
  clear e0
  go_enter Tryz.func41, Tryz.ntmps41
  go_upto_region 1 with fail
  generalize w.alloc (.cells #[.int .i64 dn, .int .i64 dd, .int .i64 li, .int .i64 le, .int .i64 pt, .int .i64 ag, .int .i64 ke, .int .i64 lg, .int .i64 s, .int .i64 g, .slice p m d] 45) = v at *
  have x0 : _ ∧ _ := C
  go_wp2_with fail
  refine (C1 _).mono ?_
  rintro e v1 ⟨rfl, hb⟩
  clear x0
  rw [h1]
  replace B := B.trans (hb.mono B.size)
  replace C := C.below hb
  clear hb
  go_wp2_with fail
  go_ret
  exact ⟨rfl, B⟩
 cases h2 : plB s g PM m
 ·have e0 : cfB dn dd li le pt ag ke lg s g PM m = false := by unfold cfB; rw [h1, h2]; simp
  rw [e0]
  clear e0
  go_enter Tryz.func41, Tryz.ntmps41
  go_upto_region 1 with fail
  generalize w.alloc (.cells #[.int .i64 dn, .int .i64 dd, .int .i64 li, .int .i64 le, .int .i64 pt, .int .i64 ag, .int .i64 ke, .int .i64 lg, .int .i64 s, .int .i64 g, .slice p m d] 45) = v at *
  have x0 : _ ∧ _ := C
  go_wp2_with fail
  refine (C1 _).mono ?_
  rintro e v1 ⟨rfl, hb⟩
  clear x0
  rw [h1]
  replace B := B.trans (hb.mono B.size)
  replace C := C.below hb
  clear hb
  have x0 : _ ∧ _ := C
  go_wp2_with fail
  refine (C2 _ (HP.out.below B)).mono ?_
  rintro e v2 ⟨rfl, hb⟩
  clear x0
  rw [h2]
  replace B := B.trans (hb.mono B.size)
  replace C := C.below hb
  clear hb
  go_wp2_with fail
  go_ret
  exact ⟨rfl, B⟩
 cases h3 : inI li 0 8
 ·have e0 : cfB dn dd li le pt ag ke lg s g PM m = false := by unfold cfB; rw [h1, h2, h3]; simp
  rw [e0]
  clear e0
  go_enter Tryz.func41, Tryz.ntmps41
  go_upto_region 1 with fail
  generalize w.alloc (.cells #[.int .i64 dn, .int .i64 dd, .int .i64 li, .int .i64 le, .int .i64 pt, .int .i64 ag, .int .i64 ke, .int .i64 lg, .int .i64 s, .int .i64 g, .slice p m d] 45) = v at *
  have x0 : _ ∧ _ := C
  go_wp2_with fail
  refine (C1 _).mono ?_
  rintro e v1 ⟨rfl, hb⟩
  clear x0
  rw [h1]
  replace B := B.trans (hb.mono B.size)
  replace C := C.below hb
  clear hb
  have x0 : _ ∧ _ := C
  go_wp2_with fail
  refine (C2 _ (HP.out.below B)).mono ?_
  rintro e v2 ⟨rfl, hb⟩
  clear x0
  rw [h2]
  replace B := B.trans (hb.mono B.size)
  replace C := C.below hb
  clear hb
  have x0 : _ ∧ _ := C
  go_wp2_with fail
  refine (C3 _).mono ?_
  rintro e v3 ⟨rfl, rfl⟩
  clear x0
  rw [h3]
  go_wp2_with fail
  go_ret
  exact ⟨rfl, B⟩
 cases h4 : inI le 1 8
 ·have e0 : cfB dn dd li le pt ag ke lg s g PM m = false := by unfold cfB; rw [h1, h2, h3, h4]; simp
  rw [e0]
  clear e0
  go_enter Tryz.func41, Tryz.ntmps41
  go_upto_region 1 with fail
  generalize w.alloc (.cells #[.int .i64 dn, .int .i64 dd, .int .i64 li, .int .i64 le, .int .i64 pt, .int .i64 ag, .int .i64 ke, .int .i64 lg, .int .i64 s, .int .i64 g, .slice p m d] 45) = v at *
  have x0 : _ ∧ _ := C
  go_wp2_with fail
  refine (C1 _).mono ?_
  rintro e v1 ⟨rfl, hb⟩
  clear x0
  rw [h1]
  replace B := B.trans (hb.mono B.size)
  replace C := C.below hb
  clear hb
  have x0 : _ ∧ _ := C
  go_wp2_with fail
  refine (C2 _ (HP.out.below B)).mono ?_
  rintro e v2 ⟨rfl, hb⟩
  clear x0
  rw [h2]
  replace B := B.trans (hb.mono B.size)
  replace C := C.below hb
  clear hb
  have x0 : _ ∧ _ := C
  go_wp2_with fail
  refine (C3 _).mono ?_
  rintro e v3 ⟨rfl, rfl⟩
  clear x0
  rw [h3]
  have x0 : _ ∧ _ := C
  go_wp2_with fail
  refine (C4 _).mono ?_
  rintro e v4 ⟨rfl, rfl⟩
  clear x0
  rw [h4]
  go_wp2_with fail
  go_ret
  exact ⟨rfl, B⟩
 cases h5 : okT pt
 ·have e0 : cfB dn dd li le pt ag ke lg s g PM m = false := by unfold cfB; rw [h1, h2, h3, h4, h5]; simp
  rw [e0]
  clear e0
  go_enter Tryz.func41, Tryz.ntmps41
  go_upto_region 1 with fail
  generalize w.alloc (.cells #[.int .i64 dn, .int .i64 dd, .int .i64 li, .int .i64 le, .int .i64 pt, .int .i64 ag, .int .i64 ke, .int .i64 lg, .int .i64 s, .int .i64 g, .slice p m d] 45) = v at *
  have x0 : _ ∧ _ := C
  go_wp2_with fail
  refine (C1 _).mono ?_
  rintro e v1 ⟨rfl, hb⟩
  clear x0
  rw [h1]
  replace B := B.trans (hb.mono B.size)
  replace C := C.below hb
  clear hb
  have x0 : _ ∧ _ := C
  go_wp2_with fail
  refine (C2 _ (HP.out.below B)).mono ?_
  rintro e v2 ⟨rfl, hb⟩
  clear x0
  rw [h2]
  replace B := B.trans (hb.mono B.size)
  replace C := C.below hb
  clear hb
  have x0 : _ ∧ _ := C
  go_wp2_with fail
  refine (C3 _).mono ?_
  rintro e v3 ⟨rfl, rfl⟩
  clear x0
  rw [h3]
  have x0 : _ ∧ _ := C
  go_wp2_with fail
  refine (C4 _).mono ?_
  rintro e v4 ⟨rfl, rfl⟩
  clear x0
  rw [h4]
  have x0 : _ ∧ _ := C
  go_wp2_with fail
  refine (C5 _).mono ?_
  rintro e v5 ⟨rfl, rfl⟩
  clear x0
  rw [h5]
  go_wp2_with fail
  go_ret
  exact ⟨rfl, B⟩
 cases h6 : okT ag
 ·have e0 : cfB dn dd li le pt ag ke lg s g PM m = false := by unfold cfB; rw [h1, h2, h3, h4, h5, h6]; simp
  rw [e0]
  clear e0
  go_enter Tryz.func41, Tryz.ntmps41
  go_upto_region 1 with fail
  generalize w.alloc (.cells #[.int .i64 dn, .int .i64 dd, .int .i64 li, .int .i64 le, .int .i64 pt, .int .i64 ag, .int .i64 ke, .int .i64 lg, .int .i64 s, .int .i64 g, .slice p m d] 45) = v at *
  have x0 : _ ∧ _ := C
  go_wp2_with fail
  refine (C1 _).mono ?_
  rintro e v1 ⟨rfl, hb⟩
  clear x0
  rw [h1]
  replace B := B.trans (hb.mono B.size)
  replace C := C.below hb
  clear hb
  have x0 : _ ∧ _ := C
  go_wp2_with fail
  refine (C2 _ (HP.out.below B)).mono ?_
  rintro e v2 ⟨rfl, hb⟩
  clear x0
  rw [h2]
  replace B := B.trans (hb.mono B.size)
  replace C := C.below hb
  clear hb
  have x0 : _ ∧ _ := C
  go_wp2_with fail
  refine (C3 _).mono ?_
  rintro e v3 ⟨rfl, rfl⟩
  clear x0
  rw [h3]
  have x0 : _ ∧ _ := C
  go_wp2_with fail
  refine (C4 _).mono ?_
  rintro e v4 ⟨rfl, rfl⟩
  clear x0
  rw [h4]
  have x0 : _ ∧ _ := C
  go_wp2_with fail
  refine (C5 _).mono ?_
  rintro e v5 ⟨rfl, rfl⟩
  clear x0
  rw [h5]
  have x0 : _ ∧ _ := C
  go_wp2_with fail
  refine (C6 _).mono ?_
  rintro e v6 ⟨rfl, rfl⟩
  clear x0
  rw [h6]
  go_wp2_with fail
  go_ret
  exact ⟨rfl, B⟩
 cases h7 : okT ke
 ·have e0 : cfB dn dd li le pt ag ke lg s g PM m = false := by unfold cfB; rw [h1, h2, h3, h4, h5, h6, h7]; simp
  rw [e0]
  clear e0
  go_enter Tryz.func41, Tryz.ntmps41
  go_upto_region 1 with fail
  generalize w.alloc (.cells #[.int .i64 dn, .int .i64 dd, .int .i64 li, .int .i64 le, .int .i64 pt, .int .i64 ag, .int .i64 ke, .int .i64 lg, .int .i64 s, .int .i64 g, .slice p m d] 45) = v at *
  have x0 : _ ∧ _ := C
  go_wp2_with fail
  refine (C1 _).mono ?_
  rintro e v1 ⟨rfl, hb⟩
  clear x0
  rw [h1]
  replace B := B.trans (hb.mono B.size)
  replace C := C.below hb
  clear hb
  have x0 : _ ∧ _ := C
  go_wp2_with fail
  refine (C2 _ (HP.out.below B)).mono ?_
  rintro e v2 ⟨rfl, hb⟩
  clear x0
  rw [h2]
  replace B := B.trans (hb.mono B.size)
  replace C := C.below hb
  clear hb
  have x0 : _ ∧ _ := C
  go_wp2_with fail
  refine (C3 _).mono ?_
  rintro e v3 ⟨rfl, rfl⟩
  clear x0
  rw [h3]
  have x0 : _ ∧ _ := C
  go_wp2_with fail
  refine (C4 _).mono ?_
  rintro e v4 ⟨rfl, rfl⟩
  clear x0
  rw [h4]
  have x0 : _ ∧ _ := C
  go_wp2_with fail
  refine (C5 _).mono ?_
  rintro e v5 ⟨rfl, rfl⟩
  clear x0
  rw [h5]
  have x0 : _ ∧ _ := C
  go_wp2_with fail
  refine (C6 _).mono ?_
  rintro e v6 ⟨rfl, rfl⟩
  clear x0
  rw [h6]
  have x0 : _ ∧ _ := C
  go_wp2_with fail
  refine (C7 _).mono ?_
  rintro e v7 ⟨rfl, rfl⟩
  clear x0
  rw [h7]
  go_wp2_with fail
  go_ret
  exact ⟨rfl, B⟩
 cases h8 : inI lg 1 1000000
 ·have e0 : cfB dn dd li le pt ag ke lg s g PM m = false := by unfold cfB; rw [h1, h2, h3, h4, h5, h6, h7, h8]; simp
  rw [e0]
  clear e0
  go_enter Tryz.func41, Tryz.ntmps41
  go_upto_region 1 with fail
  generalize w.alloc (.cells #[.int .i64 dn, .int .i64 dd, .int .i64 li, .int .i64 le, .int .i64 pt, .int .i64 ag, .int .i64 ke, .int .i64 lg, .int .i64 s, .int .i64 g, .slice p m d] 45) = v at *
  have x0 : _ ∧ _ := C
  go_wp2_with fail
  refine (C1 _).mono ?_
  rintro e v1 ⟨rfl, hb⟩
  clear x0
  rw [h1]
  replace B := B.trans (hb.mono B.size)
  replace C := C.below hb
  clear hb
  have x0 : _ ∧ _ := C
  go_wp2_with fail
  refine (C2 _ (HP.out.below B)).mono ?_
  rintro e v2 ⟨rfl, hb⟩
  clear x0
  rw [h2]
  replace B := B.trans (hb.mono B.size)
  replace C := C.below hb
  clear hb
  have x0 : _ ∧ _ := C
  go_wp2_with fail
  refine (C3 _).mono ?_
  rintro e v3 ⟨rfl, rfl⟩
  clear x0
  rw [h3]
  have x0 : _ ∧ _ := C
  go_wp2_with fail
  refine (C4 _).mono ?_
  rintro e v4 ⟨rfl, rfl⟩
  clear x0
  rw [h4]
  have x0 : _ ∧ _ := C
  go_wp2_with fail
  refine (C5 _).mono ?_
  rintro e v5 ⟨rfl, rfl⟩
  clear x0
  rw [h5]
  have x0 : _ ∧ _ := C
  go_wp2_with fail
  refine (C6 _).mono ?_
  rintro e v6 ⟨rfl, rfl⟩
  clear x0
  rw [h6]
  have x0 : _ ∧ _ := C
  go_wp2_with fail
  refine (C7 _).mono ?_
  rintro e v7 ⟨rfl, rfl⟩
  clear x0
  rw [h7]
  have x0 : _ ∧ _ := C
  go_wp2_with fail
  refine (C8 _).mono ?_
  rintro e v8 ⟨rfl, rfl⟩
  clear x0
  rw [h8]
  go_wp2_with fail
  go_ret
  exact ⟨rfl, B⟩
 have e0 : cfB dn dd li le pt ag ke lg s g PM m = true := by unfold cfB; rw [h1, h2, h3, h4, h5, h6, h7, h8]; rfl
 rw [e0]
 clear e0
 go_enter Tryz.func41, Tryz.ntmps41
 go_upto_region 1 with fail
 generalize w.alloc (.cells #[.int .i64 dn, .int .i64 dd, .int .i64 li, .int .i64 le, .int .i64 pt, .int .i64 ag, .int .i64 ke, .int .i64 lg, .int .i64 s, .int .i64 g, .slice p m d] 45) = v at *
 have x0 : _ ∧ _ := C
 go_wp2_with fail
 refine (C1 _).mono ?_
 rintro e v1 ⟨rfl, hb⟩
 clear x0
 rw [h1]
 replace B := B.trans (hb.mono B.size)
 replace C := C.below hb
 clear hb
 have x0 : _ ∧ _ := C
 go_wp2_with fail
 refine (C2 _ (HP.out.below B)).mono ?_
 rintro e v2 ⟨rfl, hb⟩
 clear x0
 rw [h2]
 replace B := B.trans (hb.mono B.size)
 replace C := C.below hb
 clear hb
 have x0 : _ ∧ _ := C
 go_wp2_with fail
 refine (C3 _).mono ?_
 rintro e v3 ⟨rfl, rfl⟩
 clear x0
 rw [h3]
 have x0 : _ ∧ _ := C
 go_wp2_with fail
 refine (C4 _).mono ?_
 rintro e v4 ⟨rfl, rfl⟩
 clear x0
 rw [h4]
 have x0 : _ ∧ _ := C
 go_wp2_with fail
 refine (C5 _).mono ?_
 rintro e v5 ⟨rfl, rfl⟩
 clear x0
 rw [h5]
 have x0 : _ ∧ _ := C
 go_wp2_with fail
 refine (C6 _).mono ?_
 rintro e v6 ⟨rfl, rfl⟩
 clear x0
 rw [h6]
 have x0 : _ ∧ _ := C
 go_wp2_with fail
 refine (C7 _).mono ?_
 rintro e v7 ⟨rfl, rfl⟩
 clear x0
 rw [h7]
 have x0 : _ ∧ _ := C
 go_wp2_with fail
 refine (C8 _).mono ?_
 rintro e v8 ⟨rfl, rfl⟩
 clear x0
 rw [h8]
 go_wp2_with fail
 go_ret
 exact ⟨rfl, B⟩
end Go.Proofs.YtddijpjgkifngaaGreat
