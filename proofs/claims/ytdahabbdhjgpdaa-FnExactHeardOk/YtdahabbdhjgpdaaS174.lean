/- One put into a row of what was heard (slices.Insert). -/
import Derived.Test.YtdahabbdhjgpdaaS168
import Derived.Lib.Overlaps
import Derived.Lib.AppendZerosOnto
import Derived.Laws.CopyRow
import Derived.Laws.Externs
import Derived.BigRegion
import Derived.Deep.RegionHeld3
import Derived.Deep.DeepCutAuto
import Derived.WalkKit
import Derived.WalkSpells
import Derived.WalkLawsBesides
import Derived.Deep.RegionHeld
namespace Go.Proofs.Ytdahabbdhjgpdaa
open Go.RowKit
set_option linter.unusedVariables false
/- A copy between rows whose elements have two cells. -/
theorem run_copy2 {P : Program} (w : World) (dT sT ty elem : TypeId) (g o dLen dCap : Nat) (a : Addr) (sLen sCap : Nat) (cur : Array Value) (t : TypeId) (cs : List Value)
    (hu : P.underlying dT = some (.slice elem)) (hs : (P.info? elem).map (·.size) = some 2)
    (hg : w.heap[g]? = some (.cells cur t (0, 0))) (k : Nat) (hk : Nat.min sLen dLen = k) (hn : cs.length = k * 2)
    (hsrc : ∀ j v, cs[j]? = some v → w.cell? (a.add j) = some v) (hfit : o + cs.length ≤ cur.size) (h1 : ∀ v ∈ cs, v.oneCell' = true) :
    (Builtin.copy_ #[dT, sT] ty #[.slice (some ⟨g, o, none⟩) dLen dCap, .slice (some a) sLen sCap]).run P w =
      .ok (goInt k) (w.setRow g (cur.toList.take o ++ cs ++ cur.toList.drop (o + cs.length)).toArray) := by
  have hl := run_loadCells_list (P := P) w a cs hsrc
  have hst := run_storeCells_at P g o t cs 0 cur w hg (by simpa using hfit) h1
  cases hq : P.info? elem with
  | none => simp [hq] at hs
  | some i =>
    have hi : i.size = 2 := by simpa [hq] using hs
    simp [Builtin.copy_, run_underlying hu, Builtin.lenOf, Builtin.firstCells, sizeOf, typeInfo, hq, hi, hk, ← hn, hl, hst]
/- What the cells of a row come to when two are put in. -/
theorem ins_room {c xs vs : List Value} {i n : Nat} (hx : c.take (n * 2) = xs) (hl : xs.length = n * 2) (hv : vs.length = 2) (hi : i < n) (hc : (n + 1) * 2 ≤ c.length) :
    ((c.take ((i + 1) * 2) ++ xs.drop (i * 2) ++ c.drop ((i + 1) * 2 + (xs.drop (i * 2)).length)).take (i * 2) ++ vs ++ (c.take ((i + 1) * 2) ++ xs.drop (i * 2) ++ c.drop ((i + 1) * 2 + (xs.drop (i * 2)).length)).drop (i * 2 + vs.length)).take ((n + 1) * 2) = xs.take (i * 2) ++ (vs ++ xs.drop (i * 2)) := by
  have e1 : (c.take ((i + 1) * 2)).length = (i + 1) * 2 := by rw [List.length_take]; omega
  have e2 : c.take (i * 2) = xs.take (i * 2) := by rw [← hx, List.take_take]; congr 1; omega
  generalize hr : c.drop ((i + 1) * 2 + (xs.drop (i * 2)).length) = r
  have e3 : (c.take ((i + 1) * 2) ++ xs.drop (i * 2) ++ r).take (i * 2) = xs.take (i * 2) := by
    rw [List.append_assoc, List.take_append_of_le_length (by omega), List.take_take, ← e2]; congr 1; omega
  have e4 : (c.take ((i + 1) * 2) ++ xs.drop (i * 2) ++ r).drop (i * 2 + vs.length) = xs.drop (i * 2) ++ r := by
    rw [hv, List.append_assoc, show i * 2 + 2 = (c.take ((i + 1) * 2)).length by omega, List.drop_left]
  rw [e3, e4, ← List.append_assoc, List.take_append_of_le_length (by simp [hv, hl]; omega)]
  rw [List.append_assoc, List.take_of_length_le (by simp [hv, hl]; omega)]
theorem ins_grow {c xs vs : List Value} {i n : Nat} (hx : c.take (i * 2) = xs.take (i * 2)) (hl : xs.length = n * 2) (hv : vs.length = 2) (hi : i < n) (hc : (n + 1) * 2 ≤ c.length) :
    (((c.take (i * 2) ++ vs ++ c.drop (i * 2 + vs.length)).take ((i + 1) * 2)) ++ xs.drop (i * 2) ++ (c.take (i * 2) ++ vs ++ c.drop (i * 2 + vs.length)).drop ((i + 1) * 2 + (xs.drop (i * 2)).length)).take ((n + 1) * 2) = xs.take (i * 2) ++ (vs ++ xs.drop (i * 2)) := by
  have e0 : (xs.take (i * 2)).length = i * 2 := by rw [List.length_take]; omega
  have e1 : (c.take (i * 2) ++ vs ++ c.drop (i * 2 + vs.length)).take ((i + 1) * 2) = xs.take (i * 2) ++ vs := by
    rw [hx, show (i + 1) * 2 = (xs.take (i * 2) ++ vs).length by simp [hv]; omega, List.take_left]
  rw [e1]
  generalize (c.take (i * 2) ++ vs ++ c.drop (i * 2 + vs.length)).drop ((i + 1) * 2 + (xs.drop (i * 2)).length) = r
  rw [List.take_append_of_le_length (by simp [hv, hl]; omega), List.take_of_length_le (by simp [hv, hl]; omega), List.append_assoc]
theorem ins_size {c xs vs : List Value} {a b m : Nat} (hb : a + xs.length ≤ c.length) : (c.take a ++ xs ++ c.drop (a + xs.length)).length = c.length := by
  simp; omega
theorem wpList_append_run16 {P : Program} (w : World) {ops : Array Oper} {rest : List Oper} {o : Oper} {a : Act} {Q : Exit → Act → World → Prop} (hgd : o.guard = none) (s x : Operand) (t t' : TypeId)
    (ho : o.op = .call { callee := .builtin .append, args := #[s, x], argTypes := #[t, t'] }) (v u : Value) (hs : a.eval s = v) (hx : a.eval x = u) {v' : Value} {w' : World}
    (hr : (Builtin.append_ #[t, t'] o.type #[v, u]).run P w = .ok v' w') (h : wpList P ops Q rest (a.put o.dst v') w') : wpList P ops Q (o :: rest) a w := by
  refine wpList_plain hgd fun _ hK => ?_
  unfold Oper.wp execOp
  simp only [ho, resolve, invoke, builtin, Sem.run_bind, Sem.run_pure, Result.andThen_ok, List.map_toArray, List.map_cons, List.map_nil, hs, hx, hr]
  exact hK _ _ h
set_option maxRecDepth 100000 in
set_option maxHeartbeats 8000000 in
theorem insert_room (base g n c : Nat) (cur : Array Value) (xs : List Value) (i : Nat) (x0 x1 : Int) (jz : Nat) (w : World) (hg : w.heap[g]? = some (.cells cur 54 (0, 0))) (hb : base ≤ g) (hroom : n + 1 ≤ c) (hcm : c ≤ maxLen) (hcs : cur.size = c * 2) (hx : cur.toList.take (n * 2) = xs) (hl : xs.length = n * 2) (hi : i < n) (hn : n ≤ 16)
    (hJ : w.heap[jz]? = some (.cells #[.int .i64 x0, .int .i64 x1] 54 (0, 0))) (hne : jz ≠ g) (h1 : ∀ u ∈ xs, u.oneCell' = true) :
    Calls Try.prog 42 #[.slice (some ⟨g, 0, none⟩) n c, .int .i64 (i : Int), .slice (some ⟨jz, 0, none⟩) 1 1] w fun e w' => ∃ v', e = .returned v' ∧ w'.ownsRow base 54 2 v' (n + 1) (xs.take (i * 2) ++ ([Value.int .i64 x0, Value.int .i64 x1] ++ xs.drop (i * 2))) ∧ w.grownBy w' (some g) := by
  have hsz : (Try.prog.info? 54).map (·.size) = some 2 := by kernel_rfl
  unfold maxLen at hcm
  have hz2 : ¬ ((i : Int) = (n : Int)) := by omega
  have hdl : (xs.drop (i * 2)).length = (n - i) * 2 := by rw [List.length_drop, hl]; omega
  have cJ : ∀ (W : World), W.heap[jz]? = some (.cells #[.int .i64 x0, .int .i64 x1] 54 (0, 0)) → ∀ (j : Nat) (v : Value), [Value.int .i64 x0, Value.int .i64 x1][j]? = some v → W.cell? ((⟨jz, 0, none⟩ : Addr).add j) = some v := fun W hW j v hj => by
    rw [addr_add16, Nat.zero_add]
    match j, hj with
    | 0, hj => simp at hj; subst hj; simp [World.cell?, hW]
    | 1, hj => simp at hj; subst hj; simp [World.cell?, hW]
  have hov : ∀ lb cb, (callFunc 47 #[.slice (some ⟨jz, 0, none⟩) 1 1, .slice (some ⟨g, (i + 1) * 2, none⟩) lb cb]).run Try.prog w = .ok (.value (.bool false)) w := fun lb cb => by
    rw [run_callFunc_extern Try.func47 (by kernel_rfl) (by kernel_rfl) (by kernel_rfl) (e := Extern.SlicesOverlaps.overlaps #[25, 25] #[4]) (by kernel_rfl),
      Lib.run_overlaps_apart w 25 4 54 Try.underlying25 2 (fun w => by kernel_rfl) ⟨jz, 0, none⟩ ⟨g, (i + 1) * 2, none⟩ 1 1 lb cb hne 54 54 2 cur.size (by simp [World.shape?, hJ]) (by simp [World.shape?, hg]) (by omega) (by simp [World.frozen?, hJ]) (by simp [World.frozen?, hJ])]
    rfl
  have cG : ∀ (W : World), W.heap[g]? = some (.cells cur 54 (0, 0)) → ∀ (j : Nat) (v : Value), (xs.drop (i * 2))[j]? = some v → W.cell? ((⟨g, i * 2, none⟩ : Addr).add j) = some v := fun W hW j v hj => by
    rw [addr_add16]
    rw [List.getElem?_drop, ← hx, List.getElem?_take] at hj
    split at hj
    · simp only [World.cell?, hW]; simpa using hj
    · cases hj
  have hcp1 : ∀ ty dc sc, (Builtin.copy_ #[25, 25] ty #[.slice (some ⟨g, (i + 1) * 2, none⟩) (n - i) dc, .slice (some ⟨g, i * 2, none⟩) (n + 1 - i) sc]).run Try.prog w.drew = .ok (goInt ((n - i : Nat) : Int)) (w.drew.setRow g (cur.toList.take ((i + 1) * 2) ++ xs.drop (i * 2) ++ cur.toList.drop ((i + 1) * 2 + (xs.drop (i * 2)).length)).toArray) := fun ty dc sc =>
    run_copy2 w.drew 25 25 ty 54 g ((i + 1) * 2) (n - i) dc ⟨g, i * 2, none⟩ (n + 1 - i) sc cur 54 (xs.drop (i * 2)) Try.underlying25 hsz hg (n - i) (by simp only [Nat.min_def]; split <;> omega) hdl (cG w.drew hg) (by rw [hdl, hcs]; omega) (fun v hv => h1 v (List.mem_of_mem_drop hv))
  obtain ⟨c1, hc1⟩ : ∃ c1, c1 = (cur.toList.take ((i + 1) * 2) ++ xs.drop (i * 2) ++ cur.toList.drop ((i + 1) * 2 + (xs.drop (i * 2)).length)) := ⟨_, rfl⟩
  have hc1l : c1.length = c * 2 := by rw [hc1, ins_size (b := 0) (m := 0) (vs := []) (by rw [hdl, Array.length_toList, hcs]; omega), Array.length_toList, hcs]
  rw [← hc1] at hcp1
  have hg1 : (w.drew.setRow g c1.toArray).heap[g]? = some (.cells c1.toArray 54 (0, 0)) := setRow_heap w.drew g cur _ 54 _ hg
  have hJ1 : (w.drew.setRow g c1.toArray).heap[jz]? = some (.cells #[.int .i64 x0, .int .i64 x1] 54 (0, 0)) := by rw [setRow_other w.drew g jz _ hne]; exact hJ
  have hcp2 : ∀ ty dc, (Builtin.copy_ #[25, 25] ty #[.slice (some ⟨g, i * 2, none⟩) (n + 1 - i) dc, .slice (some ⟨jz, 0, none⟩) 1 1]).run Try.prog (w.drew.setRow g c1.toArray) = .ok (goInt 1) ((w.drew.setRow g c1.toArray).setRow g (c1.take (i * 2) ++ [Value.int .i64 x0, Value.int .i64 x1] ++ c1.drop (i * 2 + 2)).toArray) := fun ty dc =>
    run_copy2 (w.drew.setRow g c1.toArray) 25 25 ty 54 g (i * 2) (n + 1 - i) dc ⟨jz, 0, none⟩ 1 1 c1.toArray 54 [Value.int .i64 x0, Value.int .i64 x1] Try.underlying25 hsz hg1 1 (by simp only [Nat.min_def]; split <;> omega) rfl (cJ _ hJ1) (by simp [hc1l]; omega) (by intro u hu; simp at hu; rcases hu with rfl | rfl <;> rfl)
  have HE : Hid (((w.drew.setRow g c1.toArray).setRow g (c1.take (i * 2) ++ [Value.int .i64 x0, Value.int .i64 x1] ++ c1.drop (i * 2 + 2)).toArray).ownsRow base 54 2 (.slice (some ⟨g, 0, none⟩) (n + 1) c) (n + 1) (xs.take (i * 2) ++ ([Value.int .i64 x0, Value.int .i64 x1] ++ xs.drop (i * 2))) ∧ w.grownBy ((w.drew.setRow g c1.toArray).setRow g (c1.take (i * 2) ++ [Value.int .i64 x0, Value.int .i64 x1] ++ c1.drop (i * 2 + 2)).toArray) (some g)) := by
    refine ⟨⟨by simp [hl]; omega, .inr ⟨g, c, _, rfl, hb, setRow_heap _ g c1.toArray _ 54 _ hg1, hroom, hcm, ?_, ?_⟩⟩, ⟨rfl, rfl, rfl, by simp, fun k _ hk => ?_⟩⟩
    · have := ins_size (c := c1) (xs := [Value.int .i64 x0, Value.int .i64 x1]) (a := i * 2) (b := 0) (m := 0) (vs := []) (by simp [hc1l]; omega)
      simp only [List.length_cons, List.length_nil] at this
      simpa [hc1l] using this
    · have := ins_room (c := cur.toList) (vs := [Value.int .i64 x0, Value.int .i64 x1]) hx hl rfl hi (by rw [Array.length_toList, hcs]; omega)
      rw [← hc1] at this
      simpa using this
    · have hkg : k ≠ g := fun e => hk (by rw [e])
      rw [setRow_other _ g k _ hkg, setRow_other _ g k _ hkg]
      rfl
  generalize ((w.drew.setRow g c1.toArray).setRow g (c1.take (i * 2) ++ [Value.int .i64 x0, Value.int .i64 x1] ++ c1.drop (i * 2 + 2)).toArray) = W2 at *
  generalize w.drew.setRow g c1.toArray = W1 at *
  have hb1 : (i + 1 : Nat) ≤ n + 1 := by omega
  have hb2 : ¬ (c = i + 1) := by omega
  have hb4 : ¬ (c = i) := by omega
  have hi1 : (i : Int) ≤ (n : Int) := by omega
  clear cJ cG hJ hJ1 hg hg1 hc1 hc1l hdl hx hl h1 hcs
  go_enter Try.func42, Try.ntmps42
  go_wp2_with (simp only [hov])
  have hq1 := hcp1 3 (c - (i + 1)) (c - i)
  have hq2 := hcp2 3 (c - i)
  clear hcp1 hcp2
  go_region
  go_wp2_with fail
  go_ret
  exact ⟨_, rfl, by simpa using HE.out.1, HE.out.2⟩
set_option maxRecDepth 100000 in
set_option maxHeartbeats 8000000 in
theorem insert_grow (base g n : Nat) (cur : Array Value) (xs : List Value) (i : Nat) (x0 x1 : Int) (jz : Nat) (w : World) (hg : w.heap[g]? = some (.cells cur 54 (0, 0))) (hcs : cur.size = n * 2) (hx : cur.toList.take (n * 2) = xs) (hl : xs.length = n * 2) (hi : i < n) (hn : n ≤ 16)
    (hJ : w.heap[jz]? = some (.cells #[.int .i64 x0, .int .i64 x1] 54 (0, 0))) (h1 : ∀ u ∈ xs, u.oneCell' = true) (hbase : base ≤ w.heap.size) :
    Calls Try.prog 42 #[.slice (some ⟨g, 0, none⟩) n n, .int .i64 (i : Int), .slice (some ⟨jz, 0, none⟩) 1 1] w fun e w' => ∃ v', e = .returned v' ∧ w'.ownsRow base 54 2 v' (n + 1) (xs.take (i * 2) ++ ([Value.int .i64 x0, Value.int .i64 x1] ++ xs.drop (i * 2))) ∧ w.grownBy w' (some g) := by
  have hsz : (Try.prog.info? 54).map (·.size) = some 2 := by kernel_rfl
  obtain ⟨i0, hi0, hz0, hz1, hz2'⟩ := info_parts info_heard
  have hz2 : ¬ ((i : Int) = (n : Int)) := by omega
  have hdl : (xs.drop (i * 2)).length = (n - i) * 2 := by rw [List.length_drop, hl]; omega
  have htl : (xs.take (i * 2)).length = i * 2 := by rw [List.length_take, hl]; omega
  have cJ : ∀ (W : World), W.heap[jz]? = some (.cells #[.int .i64 x0, .int .i64 x1] 54 (0, 0)) → ∀ (j : Nat) (v : Value), [Value.int .i64 x0, Value.int .i64 x1][j]? = some v → W.cell? ((⟨jz, 0, none⟩ : Addr).add j) = some v := fun W hW j v hj => by
    rw [addr_add16, Nat.zero_add]
    match j, hj with
    | 0, hj => simp at hj; subst hj; simp [World.cell?, hW]
    | 1, hj => simp at hj; subst hj; simp [World.cell?, hW]
  have cG : ∀ (W : World), W.heap[g]? = some (.cells cur 54 (0, 0)) → ∀ (j : Nat) (v : Value), (xs.drop (i * 2))[j]? = some v → W.cell? ((⟨g, i * 2, none⟩ : Addr).add j) = some v := fun W hW j v hj => by
    rw [addr_add16]
    rw [List.getElem?_drop, ← hx, List.getElem?_take] at hj
    split at hj
    · simp only [World.cell?, hW]; simpa using hj
    · cases hj
  have hold : (Builtin.firstCells i0.size i (.slice (some ⟨g, 0, none⟩) i n)).run Try.prog w.drew = .ok (xs.take (i * 2)).toArray w.drew :=
    run_firstCells_some (P := Try.prog) w.drew i0.size i ⟨g, 0, none⟩ i n (xs.take (i * 2)) (by rw [htl, hz1]) (fun j v hj => by
      rw [addr_add16, Nat.zero_add]
      rw [List.getElem?_take] at hj
      split at hj
      · rw [← hx, List.getElem?_take] at hj
        split at hj
        · have hg' : w.drew.heap[g]? = some (.cells cur 54 (0, 0)) := hg
          simp only [World.cell?, hg']; simpa using hj
        · cases hj
      · cases hj)
  have hsum : i + (n + 1 - i) = n + 1 := by omega
  have hap : ∀ ty, (Builtin.append_ #[25, 3] ty #[.slice (some ⟨g, 0, none⟩) i n, .int .i64 ((n : Int) + 1 - (i : Int))]).run Try.prog w =
      .ok (.slice (some ⟨w.heap.size, 0, none⟩) (n + 1) (grownCap w (n + 1) n 54)) (w.drew.alloc (.cells ((xs.take (i * 2)).toArray ++ Builtin.zeroCells #[.int .i64 0, .int .i64 0] (n + 1 - i) ++ Builtin.zeroCells #[.int .i64 0, .int .i64 0] (grownCap w (n + 1) n 54 - (n + 1))) 54)) := fun ty => by
    have h := Lib.run_append_grow_zeros w 25 3 ty 54 i0 (.agg #[.int .i64 0, .int .i64 0]) .i64 .i64 Try.underlying25 Try.underlying3 hi0 hz0 (some ⟨g, 0, none⟩) i n (xs.take (i * 2)) hold (n + 1 - i) (by omega) (by rw [hz1]; decide) (by omega) (by omega) (by rw [hz2']; omega)
      (by rw [hsum, hz2']; exact growslice_fits (by omega) (by omega))
    rw [hsum] at h
    rw [show (n : Int) + 1 - (i : Int) = ((n + 1 - i : Nat) : Int) by omega]
    exact h
  have hG1 := grownCap_ge w (n + 1) n 54
  have hG2 : grownCap w (n + 1) n 54 ≤ maxLen := grownCap_le_maxLen w (n + 1) n 54 (by unfold maxLen; omega)
  generalize grownCap w (n + 1) n 54 = G at *
  obtain ⟨N, hN⟩ : ∃ N, N = (xs.take (i * 2)).toArray ++ Builtin.zeroCells #[.int .i64 0, .int .i64 0] (n + 1 - i) ++ Builtin.zeroCells #[.int .i64 0, .int .i64 0] (G - (n + 1)) := ⟨_, rfl⟩
  have hNs : N.size = G * 2 := by rw [hN]; simp only [Array.size_append, List.size_toArray, size_zeroCells, htl]; simp; omega
  have hNt : N.toList.take (i * 2) = xs.take (i * 2) := by rw [hN]; simp only [Array.toList_append, List.append_assoc]; rw [List.take_append_of_le_length (by rw [htl]; exact Nat.le_refl _), List.take_of_length_le (by rw [htl]; exact Nat.le_refl _)]
  rw [← hN] at hap
  have gl : g < w.heap.size := (Array.getElem?_eq_some_iff.1 hg).1
  have jl : jz < w.heap.size := (Array.getElem?_eq_some_iff.1 hJ).1
  obtain ⟨z, hz⟩ : ∃ z, z = w.heap.size := ⟨_, rfl⟩
  obtain ⟨W0, hW0⟩ : ∃ W0, W0 = w.drew.alloc (.cells N 54) := ⟨_, rfl⟩
  have b0 : W0.heap[z]? = some (.cells N 54 (0, 0)) := by rw [hW0, hz]; exact heap_alloc_new w.drew _
  have g0 : W0.heap[g]? = some (.cells cur 54 (0, 0)) := by rw [hW0, heap_alloc_old w.drew _ gl]; exact hg
  have j0 : W0.heap[jz]? = some (.cells #[.int .i64 x0, .int .i64 x1] 54 (0, 0)) := by rw [hW0, heap_alloc_old w.drew _ jl]; exact hJ
  have G0 : w.grownBy W0 (some g) := by rw [hW0]; exact ⟨rfl, rfl, rfl, by simp, fun k hk _ => heap_alloc_old w.drew _ hk⟩
  rw [← hW0, ← hz] at hap
  have hcp1 : ∀ ty dc, (Builtin.copy_ #[25, 25] ty #[.slice (some ⟨z, i * 2, none⟩) (n + 1 - i) dc, .slice (some ⟨jz, 0, none⟩) 1 1]).run Try.prog W0 = .ok (goInt 1) (W0.setRow z (N.toList.take (i * 2) ++ [Value.int .i64 x0, Value.int .i64 x1] ++ N.toList.drop (i * 2 + 2)).toArray) := fun ty dc =>
    run_copy2 W0 25 25 ty 54 z (i * 2) (n + 1 - i) dc ⟨jz, 0, none⟩ 1 1 N 54 [Value.int .i64 x0, Value.int .i64 x1] Try.underlying25 hsz b0 1 (by simp only [Nat.min_def]; split <;> omega) rfl (cJ _ j0) (by simp [hNs]; omega) (by intro u hu; simp at hu; rcases hu with rfl | rfl <;> rfl)
  obtain ⟨c1, hc1⟩ : ∃ c1, c1 = N.toList.take (i * 2) ++ [Value.int .i64 x0, Value.int .i64 x1] ++ N.toList.drop (i * 2 + 2) := ⟨_, rfl⟩
  rw [← hc1] at hcp1
  have hc1l : c1.length = G * 2 := by
    have := ins_size (c := N.toList) (xs := [Value.int .i64 x0, Value.int .i64 x1]) (a := i * 2) (b := 0) (m := 0) (vs := []) (by simp [hNs]; omega)
    simp only [List.length_cons, List.length_nil, Array.length_toList, hNs] at this
    rw [hc1]; simpa using this
  obtain ⟨W1, hW1⟩ : ∃ W1, W1 = W0.setRow z c1.toArray := ⟨_, rfl⟩
  have b1 : W1.heap[z]? = some (.cells c1.toArray 54 (0, 0)) := by rw [hW1]; exact setRow_heap W0 z N _ 54 _ b0
  have g1 : W1.heap[g]? = some (.cells cur 54 (0, 0)) := by rw [hW1, setRow_other W0 z g _ (by omega)]; exact g0
  have G1 : w.grownBy W1 (some g) := by
    rw [hW1]
    exact ⟨G0.os, G0.tape, G0.output, by simpa using G0.size, fun k hk hne => by rw [setRow_other W0 z k _ (by omega)]; exact G0.block k hk hne⟩
  rw [← hW1] at hcp1
  have hcp2 : ∀ ty dc sc, (Builtin.copy_ #[25, 25] ty #[.slice (some ⟨z, (i + 1) * 2, none⟩) (n - i) dc, .slice (some ⟨g, i * 2, none⟩) (n - i) sc]).run Try.prog W1.drew = .ok (goInt ((n - i : Nat) : Int)) (W1.drew.setRow z (c1.take ((i + 1) * 2) ++ xs.drop (i * 2) ++ c1.drop ((i + 1) * 2 + (xs.drop (i * 2)).length)).toArray) := fun ty dc sc =>
    run_copy2 W1.drew 25 25 ty 54 z ((i + 1) * 2) (n - i) dc ⟨g, i * 2, none⟩ (n - i) sc c1.toArray 54 (xs.drop (i * 2)) Try.underlying25 hsz b1 (n - i) (by simp) hdl (cG W1.drew g1) (by simp only [hdl, List.size_toArray, hc1l]; omega) (fun v hv => h1 v (List.mem_of_mem_drop hv))
  obtain ⟨c2, hc2⟩ : ∃ c2, c2 = c1.take ((i + 1) * 2) ++ xs.drop (i * 2) ++ c1.drop ((i + 1) * 2 + (xs.drop (i * 2)).length) := ⟨_, rfl⟩
  rw [← hc2] at hcp2
  have hc2l : c2.length = G * 2 := by rw [hc2, ins_size (b := 0) (m := 0) (vs := []) (by rw [hdl, hc1l]; omega), hc1l]
  obtain ⟨W2, hW2⟩ : ∃ W2, W2 = W1.drew.setRow z c2.toArray := ⟨_, rfl⟩
  have HE : Hid (W2.ownsRow base 54 2 (.slice (some ⟨z, 0, none⟩) (n + 1) G) (n + 1) (xs.take (i * 2) ++ ([Value.int .i64 x0, Value.int .i64 x1] ++ xs.drop (i * 2))) ∧ w.grownBy W2 (some g)) := by
    rw [hW2]
    refine ⟨⟨by simp [hl]; omega, .inr ⟨z, G, _, rfl, by omega, setRow_heap W1.drew z c1.toArray _ 54 _ b1, hG1, hG2, by simpa using hc2l, ?_⟩⟩, ⟨G1.os, G1.tape, G1.output, by simpa using G1.size, fun k hk hne => by rw [setRow_other W1.drew z k _ (by omega)]; exact G1.block k hk hne⟩⟩
    have := ins_grow (c := N.toList) (vs := [Value.int .i64 x0, Value.int .i64 x1]) hNt hl rfl hi (by rw [Array.length_toList, hNs]; omega)
    simp only [List.length_cons, List.length_nil] at this
    rw [hc2, hc1]
    exact this
  rw [← hW2] at hcp2
  clear hz hW2 hc2l hc2 G1 g1 b1 hW1 hc1l hc1 G0 j0 g0 b0 hW0 gl jl hNt hNs hN hold cG cJ htl hdl hsz hi0 hz0 hz1 hz2' hg hcs hx hl hJ h1
  have hq1 := hcp1 3 (G - i)
  have hq2 := hcp2 3 (G - (i + 1)) (n - i)
  have hqa := hap 25
  clear hcp1 hcp2 hap
  unfold maxLen at hG2
  have hb1 : (i + 1 : Nat) ≤ n + 1 := by omega
  have hb2 : ¬ (G = i + 1) := by omega
  have hb4 : ¬ (G = i) := by omega
  have hb5 : ¬ (n = i) := by omega
  have hi1 : (i : Int) ≤ (n : Int) := by omega
  go_enter Try.func42, Try.ntmps42
  go_wp2_with (at_builtin; refine wpList_append_run16 _ rfl _ _ 25 3 rfl _ _ rfl rfl hqa ?_)
  go_region
  go_wp2_with fail
  go_ret
  exact ⟨_, rfl, by simpa using HE.out.1, HE.out.2⟩
theorem insert_any (base : Nat) (v : Value) (n : Nat) (xs : List Value) (i : Nat) (x0 x1 : Int) (jz : Nat) (w : World) (OW : w.ownsRow base 54 2 v n xs) (hi : i < n) (hn : n ≤ 16)
    (hJ : w.heap[jz]? = some (.cells #[.int .i64 x0, .int .i64 x1] 54 (0, 0))) (hne : v.ownBlock ≠ some jz) (h1 : ∀ u ∈ xs, u.oneCell' = true) (hbase : base ≤ w.heap.size) :
    Calls Try.prog 42 #[v, .int .i64 (i : Int), .slice (some ⟨jz, 0, none⟩) 1 1] w fun e w' => ∃ v', e = .returned v' ∧ w'.ownsRow base 54 2 v' (n + 1) (xs.take (i * 2) ++ ([Value.int .i64 x0, Value.int .i64 x1] ++ xs.drop (i * 2))) ∧ w.grownBy w' v.ownBlock := by
  rcases OW.2 with ⟨_, h0⟩ | ⟨g, cap, cur, rfl, hb, hg, hnc, hcm, hcs, ht⟩
  · omega
  have hl : xs.length = n * 2 := OW.1
  by_cases hroom : n + 1 ≤ cap
  · exact insert_room base g n cap cur xs i x0 x1 jz w hg hb hroom hcm hcs ht hl hi hn hJ (fun e => hne (by rw [e]; rfl)) h1
  · obtain rfl : cap = n := by omega
    exact insert_grow base g cap cur xs i x0 x1 jz w hg hcs ht hl hi hn hJ h1 hbase
end Go.Proofs.Ytdahabbdhjgpdaa
