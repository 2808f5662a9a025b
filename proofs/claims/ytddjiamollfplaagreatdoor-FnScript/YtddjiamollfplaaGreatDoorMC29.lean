/- The program: the kind of a word, an op with room, the words put into their fields. -/
import Derived.Test.YtddjiamollfplaaGreatDoorMC28
namespace Go.Proofs.YtddjiamollfplaaGreatDoor
open Go.RowKit
set_option linter.unusedVariables false

theorem ml : ∀ i j : Nat, i ≤ 14 → 1 ≤ j → j ≤ 14 → i ≠ j → nmK (i : Int) ≠ nmK (j : Int) := by
 intro i j h1 h3 h4 h5
 have q : ∀ i j : Fin 15, i ≠ j → 1 ≤ j.val → (nmK (i.val : Int)).data ≠ (nmK (j.val : Int)).data := by decide +kernel
 exact fun e => q ⟨i, by omega⟩ ⟨j, by omega⟩ (fun h => h5 (by injection h)) h3 (congrArg ByteArray.data e)
theorem lz {A : Array Value} (hs : A.size = 15) (k : Nat) (hk : k < 15) {x : ByteArray} (hc : A[k]? = some (.string x)) (w : World) : (Instr.index 45 (.agg A) (.int .i64 (k : Int))).run Tryz.prog w = .ok (.string x) w := by
 have h1 : (0 : Int) ≤ (k : Int) ∧ (k : Int) < 15 := by omega

 simp [Instr.index, asIntOf, run_underlying Tryz.underlying45, part, Tryz.isAgg9, Tryz.sizeOf9, h1, hc, Result.andThen, Sem.run_bind]
 intro h; omega
def wdA : Array Value := ((List.range 15).map fun k : Nat => Value.string (nmK (k : Int))).toArray
theorem lR : wdA.size = 15 := rfl
theorem nx (k : Nat) (h : k < 15) : wdA[k]? = some (.string (nmK (k : Int))) := by simp [wdA, h]
theorem lQ {P : Program} {w : World} (E : OpW w) : (loadCells ⟨0, 0, none⟩ 15).run P w = .ok wdA w := by
 have e := run_loadCells_list (P := P) w ⟨0, 0, none⟩ ((List.range 15).map fun k : Nat => Value.string (nmK (k : Int))) (fun j v hj => by
  rw [add_at, Nat.zero_add]
  have hj2 : j < 15 := by
   rcases Nat.lt_or_ge j 15 with q | q
   ·exact q
   ·rw [List.getElem?_eq_none (by simp; omega)] at hj; cases hj
  rw [E.1 j hj2]
  simpa [hj2] using hj)
 exact e
attribute [-go_sem] loadCells storeCells in
set_option maxRecDepth 100000 in
set_option maxHeartbeats 16000000 in
theorem iU (K : Nat) (h1 : 1 ≤ K) (h2 : K ≤ 14) (w : World) (E : OpW w) :
 Calls Tryz.prog 30 #[.string (nmK (K : Int))] w fun e w' => e = .returned (.int .i64 (K : Int)) ∧ Below w.heap.size w w' := by
 have hL := lQ (P := Tryz.prog) E
 have HA : Hid (∀ k : Nat, k < 15 → wdA[k]? = some (.string (nmK (k : Int)))) := nx
 have hs : wdA.size = 15 := lR
 generalize wdA = A at *
 go_enter Tryz.func30, Tryz.ntmps30
 go_wp2_with (rw [hL])
 clear hL
 go_loopw [6] (fun i wr => ∃ k : Nat, k ≤ K ∧ i = .int .i64 (k : Int) ∧ w = wr) (fun i _ => 15 - (intOf i).toNat)
 case atStart => exact ⟨0, Nat.zero_le _, rfl, rfl⟩
 case round =>
  obtain ⟨k, hk, rfl, rfl⟩ := hrel
  have hli : (k : Int) < 15 := by omega
  have hk15 : k < 15 := by omega
  have hx := lz hs k hk15 (HA.out k hk15) w
  have d1 : decide ((k : Int) < 0) = false := by (rw [decide_eq_false_iff_not]; omega)
  have d2 : decide (15 ≤ (k : Int)) = false := by (rw [decide_eq_false_iff_not]; omega)
  have i1 : (0 : Int) ≤ (k : Int) ∧ (k : Int) < 15 := by omega
  by_cases e : k = K
  ·subst e
   have hq : ((nmK (k : Int)).toList == (nmK (k : Int)).toList) = true := beq_self_eq_true _
   generalize nmK (k : Int) = nm at *
   clear hs d1 d2 i1
   go_wp2_with (rw [hx])
   go_ret
   exact ⟨rfl, Below.refl _ _⟩
  ·have hq := lX (ml k K (by omega) h1 h2 e)
   generalize nmK (k : Int) = nm at *
   generalize nmK (K : Int) = nn at *
   clear hs d1 d2 i1
   go_wp2_with (rw [hx])
   go_roundw
   case rel => exact ⟨k + 1, by omega, by go_num, by first | rfl | trivial⟩
   case measure => simp [intOf]; omega
theorem k7 (c : Nat) (h : c ≤ 1048576) (w : World) : (Instr.makeSlice 24 (.int .i64 (c : Int)) (.int .i64 (c : Int))).run Tryz.prog w = .ok (.slice (some ⟨w.heap.size, 0, none⟩) c c) (w.alloc (.cells (madeCells #[.int .i64 0] c) 3)) := by
 obtain ⟨i0, hi0, hz0, hz1, hz2⟩ := info_parts dv
 have hr := run_make (P := Tryz.prog) w 24 3 i0 _ Tryz.underlying24 hi0 hz0 .i64 .i64 (c : Int) c (by omega) (by omega) (by rw [hz2]; omega) (by omega)
 rw [hz1, Nat.mul_one] at hr
 simp only [Int.toNat_natCast] at hr
 exact hr
theorem dN {b N m : Nat} {T : TypeId} {F : Nat → Value} {k : Nat} : ∀ (us : List Value), k ≠ b → ∀ (w : World) (o : Nat) (_ : Unit), bA w b T N m F → bA (ac w k o us) b T N m F
 | [], _, _, _, _, h => h
 | u :: us, hk, w, o, _, h => dN us hk _ (o + 1) () (h.setO hk o u)
def gy (K m : Nat) (w : World) (e : Ending) (w' : World) : Prop := ∃ p n, e = .returned (.agg #[.int .i64 (K : Int), .int .i64 0, .int .i64 0, .int .i64 0, .int .i64 0, .string ⟨#[]⟩, .slice p n n]) ∧ n = (if K = 1 ∧ 2 ≤ m ∧ m ≤ 9 then m - 1 else 0) ∧ (K ≠ 1 → p = none) ∧ ((p = none ∧ n = 0) ∨ ∃ g, p = some ⟨g, 0, none⟩ ∧ w.heap.size ≤ g ∧ bA w' g 3 n n (fun _ => .int .i64 0)) ∧ Below w.heap.size w w'
attribute [-go_sem] loadCells storeCells in
set_option maxRecDepth 100000 in
set_option maxHeartbeats 16000000 in
theorem ig (K m : Nat) (hm : m ≤ 1048576) (w : World) :
 Calls Tryz.prog 29 #[.int .i64 (K : Int), .int .i64 (m : Int)] w (gy K m w) := by
 have B := Below.nw w (.cells #[.int .i64 0, .int .i64 0, .int .i64 0, .int .i64 0, .int .i64 0, .string ⟨#[]⟩, .slice none 0 0] 26)
 have R := Bo.new w #[.int .i64 0, .int .i64 0, .int .i64 0, .int .i64 0, .int .i64 0, .string ⟨#[]⟩, .slice none 0 0] 26
 go_enter Tryz.func29, Tryz.ntmps29
 go_upto_region 1 with fail
 have hsz0 : (w.alloc (.cells #[.int .i64 0, .int .i64 0, .int .i64 0, .int .i64 0, .int .i64 0, .string ⟨#[]⟩, .slice none 0 0] 26)).heap.size = w.heap.size + 1 := by simp
 have HSZ : Hid ((w.alloc (.cells #[.int .i64 0, .int .i64 0, .int .i64 0, .int .i64 0, .int .i64 0, .string ⟨#[]⟩, .slice none 0 0] 26)).heap.size = w.heap.size + 1) := hsz0
 clear hsz0
 have hlo : w.heap.size ≤ (w.alloc (.cells #[.int .i64 0, .int .i64 0, .int .i64 0, .int .i64 0, .int .i64 0, .string ⟨#[]⟩, .slice none 0 0] 26)).heap.size := B.size
 generalize w.alloc (.cells #[.int .i64 0, .int .i64 0, .int .i64 0, .int .i64 0, .int .i64 0, .string ⟨#[]⟩, .slice none 0 0] 26) = v0 at *
 have Q := Bo.new v0 #[.int .i64 0, .int .i64 0, .int .i64 0, .int .i64 0, .int .i64 0, .string ⟨#[]⟩, .slice none 0 0] 26
 have hst : (storeCells ⟨v0.heap.size, 0, none⟩ [.int .i64 (K : Int), .int .i64 0, .int .i64 0, .int .i64 0, .int .i64 0, .string ⟨#[]⟩, .slice none 0 0] 0).run Tryz.prog (v0.alloc (.cells #[.int .i64 0, .int .i64 0, .int .i64 0, .int .i64 0, .int .i64 0, .string ⟨#[]⟩, .slice none 0 0] 26)) = .ok () (ac (v0.alloc (.cells #[.int .i64 0, .int .i64 0, .int .i64 0, .int .i64 0, .int .i64 0, .string ⟨#[]⟩, .slice none 0 0] 26)) v0.heap.size 0 [.int .i64 (K : Int), .int .i64 0, .int .i64 0, .int .i64 0, .int .i64 0, .string ⟨#[]⟩, .slice none 0 0]) := Bo.store (P := Tryz.prog) (b := 0) [.int .i64 (K : Int), .int .i64 0, .int .i64 0, .int .i64 0, .int .i64 0, .string ⟨#[]⟩, .slice none 0 0] 0 0 Q rfl (by simp) (by intro u hu; simp only [List.mem_cons, List.not_mem_nil, or_false] at hu; rcases hu with h | h | h | h | h | h | h <;> (subst h; rfl))
 replace Q : Bo (ac (v0.alloc (.cells #[.int .i64 0, .int .i64 0, .int .i64 0, .int .i64 0, .int .i64 0, .string ⟨#[]⟩, .slice none 0 0] 26)) v0.heap.size 0 [.int .i64 (K : Int), .int .i64 0, .int .i64 0, .int .i64 0, .int .i64 0, .string ⟨#[]⟩, .slice none 0 0]) v0.heap.size #[.int .i64 (K : Int), .int .i64 0, .int .i64 0, .int .i64 0, .int .i64 0, .string ⟨#[]⟩, .slice none 0 0] := Q.putW (U := #[.int .i64 (K : Int), .int .i64 0, .int .i64 0, .int .i64 0, .int .i64 0, .string ⟨#[]⟩, .slice none 0 0]) rfl
 have hb := ai (k := v0.heap.size) [.int .i64 (K : Int), .int .i64 0, .int .i64 0, .int .i64 0, .int .i64 0, .string ⟨#[]⟩, .slice none 0 0] v0 _ 0 (Below.nw v0 (.cells #[.int .i64 0, .int .i64 0, .int .i64 0, .int .i64 0, .int .i64 0, .string ⟨#[]⟩, .slice none 0 0] 26)) (Nat.le_refl _)
 go_upto_region 2 with (rw [hst])
 clear hst
 replace B := B.trans (hb.mono B.size)
 replace R := R.below hb
 clear hb
 generalize ac (v0.alloc (.cells #[.int .i64 0, .int .i64 0, .int .i64 0, .int .i64 0, .int .i64 0, .string ⟨#[]⟩, .slice none 0 0] 26)) v0.heap.size 0 [.int .i64 (K : Int), .int .i64 0, .int .i64 0, .int .i64 0, .int .i64 0, .string ⟨#[]⟩, .slice none 0 0] = v1 at *
 generalize v0.heap.size = q at *
 by_cases hc : K = 1 ∧ 2 ≤ m ∧ m ≤ 9
 ·obtain ⟨hk1, hm2, hm9⟩ := hc
  have HN : Hid ((if K = 1 ∧ 2 ≤ m ∧ m ≤ 9 then m - 1 else 0) = m - 1) := if_pos ⟨hk1, hm2, hm9⟩
  have HK : Hid (K = 1) := hk1
  have hk : ((K : Int) == 1) = true := by simp [hk1]
  obtain ⟨n, rfl⟩ : ∃ n, m = n + 1 := ⟨m - 1, by omega⟩
  have e1 : ((n + 1 : Nat) : Int) - 1 = (n : Int) := by omega
  have hg : (0 : Int) < (n : Int) := by omega
  have hl : (n : Int) ≤ 8 := by omega
  have hmk := k7 n (by omega) v1
  have hb := Below.nw v1 (.cells (madeCells #[.int .i64 0] n) 3)
  have GR : bA (v1.alloc (.cells (madeCells #[.int .i64 0] n) 3)) v1.heap.size 3 n n (fun _ => .int .i64 0) := ⟨_, World.rowIs_made v1 _ n _, fun _ _ => rfl⟩
  have hgl := Q.1
  replace Q := Q.below hb
  replace R := R.below hb
  have hst := Bo.store (P := Tryz.prog) (b := 6) [.slice (some ⟨v1.heap.size, 0, none⟩) n n] 6 0 Q rfl (by simp) (by intro u hu; simp at hu; subst hu; rfl)
  clear hk1 hm2 hm9
  go_wp2_with (first | rw [hmk] | rw [hst])
  clear hmk hst
  replace B := B.trans (hb.mono B.size)
  clear hb
  generalize v1.alloc (.cells (madeCells #[.int .i64 0] n) 3) = v2 at *
  generalize v1.heap.size = g at *
  have hne : g ≠ q := by omega
  have Q2 : Bo (ac v2 q 6 [.slice (some ⟨g, 0, none⟩) n n]) q #[.int .i64 (K : Int), .int .i64 0, .int .i64 0, .int .i64 0, .int .i64 0, .string ⟨#[]⟩, .slice (some ⟨g, 0, none⟩) n n] := Q.put _ 6
  replace R : Bo (ac v2 q 6 [.slice (some ⟨g, 0, none⟩) n n]) w.heap.size #[.int .i64 0, .int .i64 0, .int .i64 0, .int .i64 0, .int .i64 0, .string ⟨#[]⟩, .slice none 0 0] := R.but (ak _ _ _ 6 (But.refl q v2)) (by have := HSZ.out; omega)
  have hG2 : bA (ac v2 q 6 [.slice (some ⟨g, 0, none⟩) n n]) g 3 n n (fun _ => .int .i64 0) := GR.setO (fun e => hne e.symm) _ _
  replace B := ai (k := q) [.slice (some ⟨g, 0, none⟩) n n] w v2 6 B hlo
  clear Q GR
  generalize ac v2 q 6 [.slice (some ⟨g, 0, none⟩) n n] = v3 at *
  have Q := Q2
  clear Q2
  have hL := Q.load (P := Tryz.prog) (n := 7) rfl
  have hst := Bo.store (P := Tryz.prog) (b := 0) (#[.int .i64 (K : Int), .int .i64 0, .int .i64 0, .int .i64 0, .int .i64 0, .string ⟨#[]⟩, .slice (some ⟨g, 0, none⟩) n n] : Array Value).toList 0 0 R rfl (by simp) (by intro u hu; simp only [List.mem_cons, List.not_mem_nil, or_false] at hu; rcases hu with h | h | h | h | h | h | h <;> (subst h; rfl))
  replace R : Bo (ac v3 w.heap.size 0 (#[.int .i64 (K : Int), .int .i64 0, .int .i64 0, .int .i64 0, .int .i64 0, .string ⟨#[]⟩, .slice (some ⟨g, 0, none⟩) n n] : Array Value).toList) w.heap.size #[.int .i64 (K : Int), .int .i64 0, .int .i64 0, .int .i64 0, .int .i64 0, .string ⟨#[]⟩, .slice (some ⟨g, 0, none⟩) n n] := R.putW (U := #[.int .i64 (K : Int), .int .i64 0, .int .i64 0, .int .i64 0, .int .i64 0, .string ⟨#[]⟩, .slice (some ⟨g, 0, none⟩) n n]) rfl
  replace B := ai (k := w.heap.size) (#[.int .i64 (K : Int), .int .i64 0, .int .i64 0, .int .i64 0, .int .i64 0, .string ⟨#[]⟩, .slice (some ⟨g, 0, none⟩) n n] : Array Value).toList w v3 0 B (Nat.le_refl _)
  have hG3 : bA (ac v3 w.heap.size 0 (#[.int .i64 (K : Int), .int .i64 0, .int .i64 0, .int .i64 0, .int .i64 0, .string ⟨#[]⟩, .slice (some ⟨g, 0, none⟩) n n] : Array Value).toList) g 3 n n (fun _ => .int .i64 0) := dN _ (by omega) _ _ () hG2
  go_wp2_with (first | rw [hL] | rw [hst])
  clear hL hst Q
  generalize ac v3 w.heap.size 0 (#[.int .i64 (K : Int), .int .i64 0, .int .i64 0, .int .i64 0, .int .i64 0, .string ⟨#[]⟩, .slice (some ⟨g, 0, none⟩) n n] : Array Value).toList = vz at *
  have hL := R.load (P := Tryz.prog) (n := 7) rfl
  (try simp only [Exit.inBlock, Exit.then])
  exact bodyPost_ret (v := .agg #[.int .i64 (K : Int), .int .i64 0, .int .i64 0, .int .i64 0, .int .i64 0, .string ⟨#[]⟩, .slice (some ⟨g, 0, none⟩) n n]) (by simp [results, Tryz.results29, go_sem]; rw [hL]; rfl) rfl (by unfold gy; exact ⟨some ⟨g, 0, none⟩, n, rfl, by rw [HN.out]; omega, fun h => absurd HK.out h, .inr ⟨g, rfl, by omega, hG3⟩, B⟩)
 ·have HN : Hid ((if K = 1 ∧ 2 ≤ m ∧ m ≤ 9 then m - 1 else 0) = 0) := if_neg hc
  generalize v1 = v3 at *
  by_cases hk1 : K = 1
  ·have hk : ((K : Int) == 1) = true := by simp [hk1]
   by_cases hm2 : 2 ≤ m
   ·have hg : (0 : Int) < (m : Int) - 1 := by omega
    have hl : ¬ (m : Int) - 1 ≤ 8 := by omega
    clear hc hk1 hm2
    have hL := Q.load (P := Tryz.prog) (n := 7) rfl
    have hst := Bo.store (P := Tryz.prog) (b := 0) (#[.int .i64 (K : Int), .int .i64 0, .int .i64 0, .int .i64 0, .int .i64 0, .string ⟨#[]⟩, .slice none 0 0] : Array Value).toList 0 0 R rfl (by simp) (by intro u hu; simp only [List.mem_cons, List.not_mem_nil, or_false] at hu; rcases hu with h | h | h | h | h | h | h <;> (subst h; rfl))
    replace R : Bo (ac v3 w.heap.size 0 (#[.int .i64 (K : Int), .int .i64 0, .int .i64 0, .int .i64 0, .int .i64 0, .string ⟨#[]⟩, .slice none 0 0] : Array Value).toList) w.heap.size #[.int .i64 (K : Int), .int .i64 0, .int .i64 0, .int .i64 0, .int .i64 0, .string ⟨#[]⟩, .slice none 0 0] := R.putW (U := #[.int .i64 (K : Int), .int .i64 0, .int .i64 0, .int .i64 0, .int .i64 0, .string ⟨#[]⟩, .slice none 0 0]) rfl
    replace B := ai (k := w.heap.size) (#[.int .i64 (K : Int), .int .i64 0, .int .i64 0, .int .i64 0, .int .i64 0, .string ⟨#[]⟩, .slice none 0 0] : Array Value).toList w v3 0 B (Nat.le_refl _)
    go_wp2_with (first | rw [hL] | rw [hst])
    clear hL hst Q
    generalize ac v3 w.heap.size 0 (#[.int .i64 (K : Int), .int .i64 0, .int .i64 0, .int .i64 0, .int .i64 0, .string ⟨#[]⟩, .slice none 0 0] : Array Value).toList = vz at *
    have hL := R.load (P := Tryz.prog) (n := 7) rfl
    (try simp only [Exit.inBlock, Exit.then])
    exact bodyPost_ret (v := .agg #[.int .i64 (K : Int), .int .i64 0, .int .i64 0, .int .i64 0, .int .i64 0, .string ⟨#[]⟩, .slice none 0 0]) (by simp [results, Tryz.results29, go_sem]; rw [hL]; rfl) rfl (by unfold gy; exact ⟨none, 0, rfl, HN.out.symm, fun _ => rfl, .inl ⟨rfl, rfl⟩, B⟩)
   ·have hg : ¬ (0 : Int) < (m : Int) - 1 := by omega
    clear hc hk1 hm2
    have hL := Q.load (P := Tryz.prog) (n := 7) rfl
    have hst := Bo.store (P := Tryz.prog) (b := 0) (#[.int .i64 (K : Int), .int .i64 0, .int .i64 0, .int .i64 0, .int .i64 0, .string ⟨#[]⟩, .slice none 0 0] : Array Value).toList 0 0 R rfl (by simp) (by intro u hu; simp only [List.mem_cons, List.not_mem_nil, or_false] at hu; rcases hu with h | h | h | h | h | h | h <;> (subst h; rfl))
    replace R : Bo (ac v3 w.heap.size 0 (#[.int .i64 (K : Int), .int .i64 0, .int .i64 0, .int .i64 0, .int .i64 0, .string ⟨#[]⟩, .slice none 0 0] : Array Value).toList) w.heap.size #[.int .i64 (K : Int), .int .i64 0, .int .i64 0, .int .i64 0, .int .i64 0, .string ⟨#[]⟩, .slice none 0 0] := R.putW (U := #[.int .i64 (K : Int), .int .i64 0, .int .i64 0, .int .i64 0, .int .i64 0, .string ⟨#[]⟩, .slice none 0 0]) rfl
    replace B := ai (k := w.heap.size) (#[.int .i64 (K : Int), .int .i64 0, .int .i64 0, .int .i64 0, .int .i64 0, .string ⟨#[]⟩, .slice none 0 0] : Array Value).toList w v3 0 B (Nat.le_refl _)
    go_wp2_with (first | rw [hL] | rw [hst])
    clear hL hst Q
    generalize ac v3 w.heap.size 0 (#[.int .i64 (K : Int), .int .i64 0, .int .i64 0, .int .i64 0, .int .i64 0, .string ⟨#[]⟩, .slice none 0 0] : Array Value).toList = vz at *
    have hL := R.load (P := Tryz.prog) (n := 7) rfl
    (try simp only [Exit.inBlock, Exit.then])
    exact bodyPost_ret (v := .agg #[.int .i64 (K : Int), .int .i64 0, .int .i64 0, .int .i64 0, .int .i64 0, .string ⟨#[]⟩, .slice none 0 0]) (by simp [results, Tryz.results29, go_sem]; rw [hL]; rfl) rfl (by unfold gy; exact ⟨none, 0, rfl, HN.out.symm, fun _ => rfl, .inl ⟨rfl, rfl⟩, B⟩)
  ·have hk : ((K : Int) == 1) = false := by (simp; omega)
   clear hc hk1
   have hL := Q.load (P := Tryz.prog) (n := 7) rfl
   have hst := Bo.store (P := Tryz.prog) (b := 0) (#[.int .i64 (K : Int), .int .i64 0, .int .i64 0, .int .i64 0, .int .i64 0, .string ⟨#[]⟩, .slice none 0 0] : Array Value).toList 0 0 R rfl (by simp) (by intro u hu; simp only [List.mem_cons, List.not_mem_nil, or_false] at hu; rcases hu with h | h | h | h | h | h | h <;> (subst h; rfl))
   replace R : Bo (ac v3 w.heap.size 0 (#[.int .i64 (K : Int), .int .i64 0, .int .i64 0, .int .i64 0, .int .i64 0, .string ⟨#[]⟩, .slice none 0 0] : Array Value).toList) w.heap.size #[.int .i64 (K : Int), .int .i64 0, .int .i64 0, .int .i64 0, .int .i64 0, .string ⟨#[]⟩, .slice none 0 0] := R.putW (U := #[.int .i64 (K : Int), .int .i64 0, .int .i64 0, .int .i64 0, .int .i64 0, .string ⟨#[]⟩, .slice none 0 0]) rfl
   replace B := ai (k := w.heap.size) (#[.int .i64 (K : Int), .int .i64 0, .int .i64 0, .int .i64 0, .int .i64 0, .string ⟨#[]⟩, .slice none 0 0] : Array Value).toList w v3 0 B (Nat.le_refl _)
   go_wp2_with (first | rw [hL] | rw [hst])
   clear hL hst Q
   generalize ac v3 w.heap.size 0 (#[.int .i64 (K : Int), .int .i64 0, .int .i64 0, .int .i64 0, .int .i64 0, .string ⟨#[]⟩, .slice none 0 0] : Array Value).toList = vz at *
   have hL := R.load (P := Tryz.prog) (n := 7) rfl
   (try simp only [Exit.inBlock, Exit.then])
   exact bodyPost_ret (v := .agg #[.int .i64 (K : Int), .int .i64 0, .int .i64 0, .int .i64 0, .int .i64 0, .string ⟨#[]⟩, .slice none 0 0]) (by simp [results, Tryz.results29, go_sem]; rw [hL]; rfl) rfl (by unfold gy; exact ⟨none, 0, rfl, HN.out.symm, fun _ => rfl, .inl ⟨rfl, rfl⟩, B⟩)

end Go.Proofs.YtddjiamollfplaaGreatDoor
