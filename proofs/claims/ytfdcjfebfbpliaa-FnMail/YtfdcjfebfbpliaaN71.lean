/- The contract of the mail: put. -/
import Derived.Test.YtfdcjfebfbpliaaN66
import Derived.WalkKit
import Derived.WalkSpells
import Derived.WalkLawsBesides
import Derived.Deep.RegionHeld
namespace Go.Proofs.Ytfdcjfebfbpliaa
open Go.RowKit
set_option linter.unusedVariables false
def insG (G : Nat → FT) (i : Nat) (f : FT) (k : Nat) : FT := if k < i then G k else if k = i then f else G (k - 1)
theorem put_row {w : World} {g n i : Nat} {G : Nat → FT} {x0 x1 x2 : Int} {x3 : ByteArray} {x4 : Int} (hi : i ≤ n) (h : w.heap[g]? = some (.cells (splice ((splice (List.replicate (n + 1) (Value.int .i64 0)) 0 (seg G 0 i)).set i (.int .i64 x0)) (i + 1) (seg G i (n - i))).toArray 3 (0, 0))) : RowF w g 3 (n + 1) (n + 1) (idF (insG G i (x0, x1, x2, x3, x4))) := by
  have e0 : splice (List.replicate (n + 1) (Value.int .i64 0)) 0 (seg G 0 i) = seg G 0 i ++ List.replicate (n + 1 - i) (Value.int .i64 0) := by
    unfold splice; simp [seg_len]
  have e1 : (seg G 0 i ++ List.replicate (n + 1 - i) (Value.int .i64 0)).set i (.int .i64 x0) = seg G 0 i ++ (.int .i64 x0 :: List.replicate (n - i) (Value.int .i64 0)) := by
    rw [List.set_append_right _ _ (by rw [seg_len]; exact Nat.le_refl _), seg_len, Nat.sub_self, show n + 1 - i = (n - i) + 1 by omega, List.replicate_succ, List.set_cons_zero]
  have e2 : splice (seg G 0 i ++ (.int .i64 x0 :: List.replicate (n - i) (Value.int .i64 0))) (i + 1) (seg G i (n - i)) = seg G 0 i ++ (.int .i64 x0 :: seg G i (n - i)) := by
    have c : seg G 0 i ++ (Value.int .i64 x0 :: List.replicate (n - i) (Value.int .i64 0)) = (seg G 0 i ++ [.int .i64 x0]) ++ List.replicate (n - i) (Value.int .i64 0) := by simp
    have l : (seg G 0 i ++ [Value.int .i64 x0]).length = i + 1 := by simp [seg_len]
    unfold splice
    rw [c, List.take_append_of_le_length (by rw [l]; exact Nat.le_refl _), List.take_of_length_le (by rw [l]; exact Nat.le_refl _), List.drop_eq_nil_of_le (by simp [seg_len]; omega), List.append_nil]
    simp
  rw [e0, e1, e2] at h
  refine ⟨fun k => idF (insG G i (x0, x1, x2, x3, x4)) k, ⟨_, h, by simp [seg_len]; omega, fun k hk => ?_⟩, fun _ _ => rfl⟩
  rw [List.getElem?_toArray]
  by_cases hki : k < i
  · rw [List.getElem?_append_left (by rw [seg_len]; exact hki)]
    simp [seg, hki, idF, insG]
  · rw [List.getElem?_append_right (by rw [seg_len]; omega), seg_len]
    by_cases hke : k = i
    · subst hke; simp [idF, insG]
    · have h2 : k - i = (k - i - 1) + 1 := by omega
      rw [h2, List.getElem?_cons_succ]
      have h3 : k - i - 1 < n - i := by omega
      have h4 : i + (k - i - 1) = k - 1 := by omega
      simp [seg, h3, idF, insG, hki, hke, h4]
set_option maxRecDepth 100000 in
set_option maxHeartbeats 4000000 in
theorem mailPut_any (nx : Int) (j bm br n q i : Nat) (F : Int → Option FT) (G : Nat → FT) (x0 x1 x2 : Int) (x3 : ByteArray) (x4 : Int) (w : World) (hn : n ≤ 40) (hi : i ≤ n) (hq : q ≤ 1000) (X : MB w j (.int .i64 nx) (.map (some bm)) (.slice (some ⟨br, 0, none⟩) n n)) (MP : MapI w bm q F) (RW : RowF w br 3 n n (idF G)) (h1 : j ≠ bm) (h2 : j ≠ br) (h3 : bm ≠ br) (hw : (Lit.int .i64 x0).wf = true) :
    Calls Try.prog 29 #[.pointer (some ⟨j, 0, none⟩), .agg #[.int .i64 x0, .int .i64 x1, .int .i64 x2, .string x3, .int .i64 x4], .int .i64 (i : Int)] w fun e w' => ∃ b, e = .returned (.tuple #[]) ∧ w.heap.size ≤ b ∧ MB w' j (.int .i64 nx) (.map (some bm)) (.slice (some ⟨b, 0, none⟩) (n + 1) (n + 1)) ∧ MapI w' bm (q + 1) (fun y => if y = x0 then some (x0, x1, x2, x3, x4) else F y) ∧ RowF w' b 3 (n + 1) (n + 1) (idF (insG G i (x0, x1, x2, x3, x4))) ∧ But2 j bm w w' := by
  have A1 := Below.nw w (.cells #[.int .i64 x0, .int .i64 x1, .int .i64 x2, .string x3, .int .i64 x4] 30)
  have P := F5.new w x0 x1 x2 x3 x4 30
  have hj := X.1
  have hm := MP.lt
  have hr := RW.lt
  have U : But2 j bm w (w.alloc (.cells #[.int .i64 x0, .int .i64 x1, .int .i64 x2, .string x3, .int .i64 x4] 30)) := But2.ofBelow A1
  replace X := X.below A1
  replace MP := MP.below A1
  replace RW := RowF.below' A1 RW
  have hmk0 := mk_rowI (n + 1) (by omega)
  have hn1 : ((n + 1 : Nat) : Int) = (n : Int) + 1 := by omega
  rw [hn1] at hmk0
  clear hn1 A1
  go_enter Try.func29, Try.ntmps29
  go_wp2_with fail
  generalize hjf : w.heap.size = jf at *
  generalize w.alloc (.cells #[.int .i64 x0, .int .i64 x1, .int .i64 x2, .string x3, .int .i64 x4] 30) = v1 at *
  obtain ⟨w2, hup, MP2, hg⟩ := (MP.drew).put hw (by unfold maxLen; omega) (x0, x1, x2, x3, x4)
  simp only [fv] at hup
  have Bm := But.ofGrown hg
  have X2 := (X.drew).but Bm h1
  have RW2 := RowF.but (show RowF v1.drew br 3 n n (idF G) from RW) Bm (fun e => h3 e.symm)
  have P2 := (P.drew).but Bm (by omega)
  have U2 : But2 j bm w w2 := (But2.trans (b := v1.drew) U (But2.right Bm))
  obtain ⟨k0, k1, k2, k3, k4, k5, k6⟩ := id X
  obtain ⟨p0, p1, p2, p3, p4, p5, p6, p7, p8, p9, p10⟩ := id P
  go_region
  clear k0 k1 k2 k3 k4 k5 k6 p0 p1 p2 p3 p4 p5 p6 p7 p8 p9 p10 hup hg Bm MP X RW P U
  obtain ⟨k0, k1, k2, k3, k4, k5, k6⟩ := id X2
  go_upto_region 3 with fail
  have hZ := rowI_heap w2 (n + 1)
  have A3 := Below.nw w2 (rowObjI (n + 1))
  have s2 : w.heap.size ≤ w2.heap.size := U2.2.2.2.1
  rw [hjf] at s2
  have X3 := X2.below A3
  have MP3 := MP2.below A3
  have RW3 := RowF.below' A3 RW2
  have P3 := P2.below A3
  have U3 := U2.trans (But2.ofBelow A3)
  have lj : j < w2.heap.size := X2.1
  have lm : bm < w2.heap.size := MP2.lt
  have lr : br < w2.heap.size := RW2.lt
  have lf : jf < w2.heap.size := P2.1
  clear k0 k1 k2 k3 k4 k5 k6 hmk0 X2 MP2 RW2 P2 U2 A3
  have hs3 : (w2.alloc (rowObjI (n + 1))).heap.size = w2.heap.size + 1 := by simp
  generalize w2.heap.size = g at *
  generalize w2.alloc (rowObjI (n + 1)) = w3 at *
  obtain ⟨k0, k1, k2, k3, k4, k5, k6⟩ := id X3
  have c1 : ∀ k v, (seg G 0 i)[k]? = some v → w3.cell? ((⟨br, 0, none⟩ : Addr).add k) = some v := by
    intro k v hv
    obtain ⟨hk, rfl⟩ := seg_get hv
    have h := (RW3.cs (Nat.le_refl _)).2 k (by omega)
    rw [Nat.zero_add]
    unfold Addr.add
    split
    · next e => subst e; exact h
    · exact h
  have hli2 : (i : Int) ≤ (n : Int) := by omega
  obtain ⟨w4, hcp, HG4, B4⟩ : ∃ w4, (Builtin.copy_ #[38, 38] 3 #[.slice (some ⟨g, 0, none⟩) (n + 1) (n + 1), .slice (some ⟨br, 0, none⟩) i n]).run Try.prog w3 = .ok (goInt i) w4 ∧ Hid (w4.heap[g]? = some (.cells (splice (List.replicate (n + 1) (Value.int .i64 0)) 0 (seg G 0 i)).toArray 3 (0, 0))) ∧ Below g w3 w4 := by
    have h := run_copy_row (P := Try.prog) w3 38 38 3 3 g 0 (n + 1) (n + 1) ⟨br, 0, none⟩ i n (List.replicate (n + 1) (Value.int .i64 0)).toArray 3 (seg G 0 i) Try.underlying38 infoSzI hZ (by rw [seg_len]; exact (Nat.min_eq_left (by omega)).symm) c1 (by simp [seg_len]; omega) (seg_one G 0 i)
    rw [seg_len] at h
    refine ⟨_, h, ?_, below_setRow (Below.refl _ _) (Nat.le_refl _) _⟩
    show _ = _
    rw [setRow_heap w3 g _ _ 3 _ hZ]
    simp [splice, seg_len]
  have Bg : But g w3 w4 := ⟨B4.os, B4.tape, B4.output, B4.size, fun k hk hkg => B4.block k (by omega)⟩
  have X4 := X3.but Bg (by omega)
  have MP4 := MP3.but Bg (by omega)
  have RW4 := RW3.but Bg (by omega)
  have P4 := P3.but Bg (by omega)
  have U4 := U3.new B4 (by omega)
  have lg : g < w4.heap.size := by have := B4.size; omega
  clear hZ c1
  go_upto_region 4 with fail
  clear k0 k1 k2 k3 k4 k5 k6 hcp X3 MP3 RW3 P3 U3 B4 Bg hs3
  have hl1 : (splice (List.replicate (n + 1) (Value.int .i64 0)) 0 (seg G 0 i)).length = n + 1 := by
    rw [length_splice _ _ _ (by simp [seg_len]; omega)]; simp
  have ci : ∃ u, w4.cell? ⟨g, i, none⟩ = some u := by
    refine ⟨(splice (List.replicate (n + 1) (Value.int .i64 0)) 0 (seg G 0 i))[i]'(by rw [hl1]; omega), ?_⟩
    have hk : i < (splice (List.replicate (n + 1) (Value.int .i64 0)) 0 (seg G 0 i)).length := by rw [hl1]; omega
    simp [World.cell?, HG4.out, hk]
  obtain ⟨u, cu⟩ := ci
  have fu : w4.frozen? ⟨g, i, none⟩ = false := by simp [World.frozen?, HG4.out]
  have HG5 : Hid ((w4.setCell ⟨g, i, none⟩ (.int .i64 x0)).heap[g]? = some (.cells ((splice (List.replicate (n + 1) (Value.int .i64 0)) 0 (seg G 0 i)).set i (.int .i64 x0)).toArray 3 (0, 0))) := by
    show _ = _
    rw [setCell_eq_setRow w4 g i _ 3 (0, 0) _ HG4.out, setRow_heap w4 g _ _ 3 _ HG4.out]
    simp
  have Bc := But.one w4 g i (.int .i64 x0)
  have X5 := X4.but Bc (by omega)
  have MP5 := MP4.but Bc (by omega)
  have RW5 := RW4.but Bc (by omega)
  have U5 : But2 j bm w (w4.setCell ⟨g, i, none⟩ (.int .i64 x0)) := U4.new (Bc.below (B := g) (Nat.le_refl _) (Nat.le_of_lt lg)) (by omega)
  have lg5 : g < (w4.setCell ⟨g, i, none⟩ (.int .i64 x0)).heap.size := by simpa using lg
  obtain ⟨p0, p1, p2, p3, p4, p5, p6, p7, p8, p9, p10⟩ := id P4
  have hli3 : (i : Int) < ((n + 1 : Nat) : Int) := by omega
  have hli4 : (i : Int) < (n : Int) + 1 := by omega
  go_upto_region 5 with fail
  generalize w4.setCell ⟨g, i, none⟩ (.int .i64 x0) = w5 at *
  clear p0 p1 p2 p3 p4 p5 p6 p7 p8 p9 p10 cu fu HG4 X4 MP4 RW4 P4 U4 lg Bc hli3 hli4
  obtain ⟨k0, k1, k2, k3, k4, k5, k6⟩ := id X5
  by_cases hlast : i = n
  · have e1 : (i : Int) = (n : Int) := by omega
    have e2 : (i : Int) + 1 = ((n + 1 : Nat) : Int) := by omega
    have hcp := run_copy_none (P := Try.prog) w5.drew 38 38 3 3 (some ⟨g, 0, none⟩) (some ⟨br, 0, none⟩) 0 0 0 0 Try.underlying38 infoSzI rfl
    have HG6 : Hid (w5.drew.heap[g]? = some (.cells (splice ((splice (List.replicate (n + 1) (Value.int .i64 0)) 0 (seg G 0 i)).set i (.int .i64 x0)) (i + 1) (seg G i (n - i))).toArray 3 (0, 0))) := by
      have h : w5.drew.heap[g]? = w5.heap[g]? := rfl
      show _ = _
      rw [h, HG5.out, show n - i = 0 by omega]
      simp [splice, seg]
    have X6 := X5.drew
    have MP6 := MP5.drew
    have U6 : But2 j bm w w5.drew := U5
    go_region
    generalize w5.drew = w6 at *
    clear k0 k1 k2 k3 k4 k5 k6 hcp X5 MP5 RW5 U5
    obtain ⟨k0, k1, k2, k3, k4, k5, k6⟩ := id X6
    go_wp2_with fail
    have Bj := But.one w6 j 2 (.slice (some ⟨g, 0, none⟩) (n + 1) (n + 1))
    have U7 := U6.trans (But2.left (q := bm) Bj)
    exact bodyPost_end (v := .tuple #[]) (by simp [results, Try.results29, go_sem]) rfl ⟨g, rfl, by omega, MB.set2 X6 _, MP6.but Bj (fun e => h1 e.symm), (put_row hi HG6.out).but Bj (by omega), U7⟩
  · have e1 : (i : Int) < (n : Int) := by omega
    have e2 : (i : Int) + 1 < ((n + 1 : Nat) : Int) := by omega
    have RD : RowF w5.drew br 3 n n (idF G) := RW5
    have c2 : ∀ k v, (seg G i (n - i))[k]? = some v → w5.drew.cell? ((⟨br, i, none⟩ : Addr).add k) = some v := by
      intro k v hv
      obtain ⟨hk, rfl⟩ := seg_get hv
      have h := (RD.cs (Nat.le_refl _)).2 (i + k) (by omega)
      rw [Nat.zero_add] at h
      unfold Addr.add
      split
      · next e => subst e; exact h
      · exact h
    have hl2 : ((splice (List.replicate (n + 1) (Value.int .i64 0)) 0 (seg G 0 i)).set i (Value.int .i64 x0)).length = n + 1 := by simp [hl1]
    obtain ⟨w6, hcp, HG6, B6⟩ : ∃ w6, (Builtin.copy_ #[38, 38] 3 #[.slice (some ⟨g, i + 1, none⟩) (n - i) (n - i), .slice (some ⟨br, i, none⟩) (n - i) (n - i)]).run Try.prog w5.drew = .ok (goInt ((n - i : Nat) : Int)) w6 ∧ Hid (w6.heap[g]? = some (.cells (splice ((splice (List.replicate (n + 1) (Value.int .i64 0)) 0 (seg G 0 i)).set i (.int .i64 x0)) (i + 1) (seg G i (n - i))).toArray 3 (0, 0))) ∧ But g w5 w6 := by
      have hg4 : w5.drew.heap[g]? = some (.cells ((splice (List.replicate (n + 1) (Value.int .i64 0)) 0 (seg G 0 i)).set i (.int .i64 x0)).toArray 3 (0, 0)) := HG5.out
      have h := run_copy_row (P := Try.prog) w5.drew 38 38 3 3 g (i + 1) (n - i) (n - i) ⟨br, i, none⟩ (n - i) (n - i) _ 3 (seg G i (n - i)) Try.underlying38 infoSzI hg4 (by rw [seg_len]; exact (Nat.min_self _).symm) c2 (by simp [hl1, seg_len]; omega) (seg_one G i (n - i))
      have hl : (seg G i (n - i)).length = n - i := seg_len _ _ _
      rw [hl] at h
      refine ⟨_, h, ?_, rfl, rfl, rfl, by simp [World.setRow], fun k hk hkg => ?_⟩
      · show _ = _
        rw [setRow_heap w5.drew g _ _ 3 _ hg4]
        simp [splice, hl]
      · exact setRow_other w5.drew g k _ hkg
    have X6 := X5.but B6 (by omega)
    have MP6 := MP5.but B6 (by omega)
    have U6 : But2 j bm w w6 := ⟨B6.1.trans U5.1, B6.2.1.trans U5.2.1, B6.2.2.1.trans U5.2.2.1, Nat.le_trans U5.2.2.2.1 B6.2.2.2.1, fun k hk a b => (B6.2.2.2.2 k (Nat.lt_of_lt_of_le hk U5.2.2.2.1) (by omega)).trans (U5.2.2.2.2 k hk a b)⟩
    clear RD c2 hl2
    go_region
    clear k0 k1 k2 k3 k4 k5 k6 hcp X5 MP5 RW5 U5
    obtain ⟨k0, k1, k2, k3, k4, k5, k6⟩ := id X6
    go_wp2_with fail
    have Bj := But.one w6 j 2 (.slice (some ⟨g, 0, none⟩) (n + 1) (n + 1))
    have U7 := U6.trans (But2.left (q := bm) Bj)
    exact bodyPost_end (v := .tuple #[]) (by simp [results, Try.results29, go_sem]) rfl ⟨g, rfl, by omega, MB.set2 X6 _, MP6.but Bj (fun e => h1 e.symm), (put_row hi HG6.out).but Bj (by omega), U7⟩
end Go.Proofs.Ytfdcjfebfbpliaa
