/- The contract of the mail: take. -/
import Derived.Test.YtfdcjfebfbpliaaN63
import Derived.Laws.CopyOwn
import Derived.Laws.OwnMore
import Derived.MapKept
import Derived.Deep.RegionHeld3
import Derived.Deep.DeepCutAuto
import Derived.WalkKit
import Derived.WalkSpells
import Derived.WalkLawsBesides
import Derived.Deep.RegionHeld
namespace Go.Proofs.Ytfdcjfebfbpliaa
open Go.RowKit
set_option linter.unusedVariables false
def But2 (p q : Nat) (w w' : World) : Prop := w'.os = w.os ∧ w'.tape = w.tape ∧ w'.output = w.output ∧ w.heap.size ≤ w'.heap.size ∧ ∀ k, k < w.heap.size → k ≠ p → k ≠ q → w'.heap[k]? = w.heap[k]?
theorem But2.refl (p q : Nat) (w : World) : But2 p q w w := ⟨rfl, rfl, rfl, Nat.le_refl _, fun _ _ _ _ => rfl⟩
theorem But2.trans {p q : Nat} {a b c : World} (h : But2 p q a b) (k : But2 p q b c) : But2 p q a c :=
  ⟨k.1.trans h.1, k.2.1.trans h.2.1, k.2.2.1.trans h.2.2.1, Nat.le_trans h.2.2.2.1 k.2.2.2.1, fun i hi h1 h2 => (k.2.2.2.2 i (Nat.lt_of_lt_of_le hi h.2.2.2.1) h1 h2).trans (h.2.2.2.2 i hi h1 h2)⟩
theorem But2.ofBelow {p q : Nat} {w w' : World} (h : Below w.heap.size w w') : But2 p q w w' := ⟨h.os, h.tape, h.output, h.size, fun k hk _ _ => h.block k hk⟩
theorem But2.left {p q : Nat} {w w' : World} (h : But p w w') : But2 p q w w' := ⟨h.1, h.2.1, h.2.2.1, h.2.2.2.1, fun k hk h1 _ => h.2.2.2.2 k hk h1⟩
theorem But2.right {p q : Nat} {w w' : World} (h : But q w w') : But2 p q w w' := ⟨h.1, h.2.1, h.2.2.1, h.2.2.2.1, fun k hk _ h1 => h.2.2.2.2 k hk h1⟩
theorem But2.below {p q B : Nat} {w w' : World} (h : But2 p q w w') (hp : B ≤ p) (hq : B ≤ q) (hs : B ≤ w.heap.size) : Below B w w' := ⟨h.1, h.2.1, h.2.2.1, h.2.2.2.1, fun k hk => h.2.2.2.2 k (by omega) (by omega) (by omega)⟩
theorem But2.new {p q g : Nat} {w w1 w' : World} (h : But2 p q w w1) (hb : Below g w1 w') (hg : w.heap.size ≤ g) : But2 p q w w' :=
  ⟨hb.os.trans h.1, hb.tape.trans h.2.1, hb.output.trans h.2.2.1, Nat.le_trans h.2.2.2.1 hb.size, fun k hk h1 h2 => (hb.block k (by omega)).trans (h.2.2.2.2 k hk h1 h2)⟩
theorem But2.cell {p q k o : Nat} {w w' : World} (h : But2 p q w w') (hk : k < w.heap.size) (h1 : k ≠ p) (h2 : k ≠ q) : w'.cell? ⟨k, o, none⟩ = w.cell? ⟨k, o, none⟩ := World.cell?_of_block (w := w) (h.2.2.2.2 k hk h1 h2)
theorem But2.frozen {p q k o : Nat} {w w' : World} (h : But2 p q w w') (hk : k < w.heap.size) (h1 : k ≠ p) (h2 : k ≠ q) : w'.frozen? ⟨k, o, none⟩ = w.frozen? ⟨k, o, none⟩ := World.frozen?_of_block (w := w) (h.2.2.2.2 k hk h1 h2)
theorem MB.belowB {w w' : World} {B j : Nat} {u0 u1 u2 : Value} (h : MB w j u0 u1 u2) (hb : Below B w w') (hj : j < B) : MB w' j u0 u1 u2 := by
  obtain ⟨h0, c0, c1, c2, f0, f1, f2⟩ := h
  exact ⟨Nat.lt_of_lt_of_le h0 hb.size, by rw [hb.cell (p := ⟨j, 0, none⟩) hj]; exact c0, by rw [hb.cell (p := ⟨j, 1, none⟩) hj]; exact c1, by rw [hb.cell (p := ⟨j, 2, none⟩) hj]; exact c2, by rw [hb.frozen (p := ⟨j, 0, none⟩) hj]; exact f0, by rw [hb.frozen (p := ⟨j, 1, none⟩) hj]; exact f1, by rw [hb.frozen (p := ⟨j, 2, none⟩) hj]; exact f2⟩
theorem MB.set2 {w : World} {j : Nat} {u0 u1 u2 : Value} (h : MB w j u0 u1 u2) (a2 : Value) : MB (w.setCell ⟨j, 2, none⟩ a2) j u0 u1 a2 := by
  obtain ⟨h0, c0, c1, c2, f0, f1, f2⟩ := h
  exact ⟨by simpa using h0, by rw [World.cell?_setCell_other _ _ _ _ (by simp)]; exact c0, by rw [World.cell?_setCell_other _ _ _ _ (by simp)]; exact c1, World.cell?_setCell_same _ _ _ c2, by simpa using f0, by simpa using f1, by simpa using f2⟩
def cutG (G : Nat → FT) (i k : Nat) : FT := if k < i then G k else G (k + 1)
theorem infoSzI : (Try.prog.info? 3).map (·.size) = some 1 := by kernel_rfl
def seg (G : Nat → FT) (i m : Nat) : List Value := (List.range m).map fun k => .int .i64 (G (i + k)).1
theorem seg_len (G : Nat → FT) (i m : Nat) : (seg G i m).length = m := by simp [seg]
theorem seg_get {G : Nat → FT} {i m k : Nat} {v : Value} (h : (seg G i m)[k]? = some v) : k < m ∧ v = .int .i64 (G (i + k)).1 := by
  have hk : k < (seg G i m).length := (List.getElem?_eq_some_iff.1 h).1
  rw [seg_len] at hk
  refine ⟨hk, ?_⟩
  simp [seg, hk] at h
  exact h.symm
theorem seg_one (G : Nat → FT) (i m : Nat) : ∀ v ∈ seg G i m, v.oneCell' = true := by
  intro v hv; simp [seg] at hv; obtain ⟨k, _, rfl⟩ := hv; rfl
theorem rowI_heap (w : World) (n : Nat) : (w.alloc (rowObjI n)).heap[w.heap.size]? = some (.cells (List.replicate n (Value.int .i64 0)).toArray 3 (0, 0)) := by
  have e : (madeCells #[Value.int .i64 0] n) = (List.replicate n (Value.int .i64 0)).toArray := by
    rw [← toList_madeCells_one]
  rw [← e]; exact (Go.MapKept.heap_alloc w _).1
theorem take_row {w : World} {g n i : Nat} {G : Nat → FT} (hi : i < n) (h : w.heap[g]? = some (.cells (splice (splice (List.replicate (n - 1) (Value.int .i64 0)) 0 (seg G 0 i)) i (seg G (i + 1) (n - 1 - i))).toArray 3 (0, 0))) : RowF w g 3 (n - 1) (n - 1) (idF (cutG G i)) := by
  have l1 := length_splice (List.replicate (n - 1) (Value.int .i64 0)) 0 (seg G 0 i) (by simp [seg_len]; omega)
  have l2 := length_splice (splice (List.replicate (n - 1) (Value.int .i64 0)) 0 (seg G 0 i)) i (seg G (i + 1) (n - 1 - i)) (by rw [l1]; simp [seg_len]; omega)
  have e : splice (splice (List.replicate (n - 1) (Value.int .i64 0)) 0 (seg G 0 i)) i (seg G (i + 1) (n - 1 - i)) = seg G 0 i ++ seg G (i + 1) (n - 1 - i) := by
    unfold splice
    have a1 : (List.take 0 (List.replicate (n - 1) (Value.int .i64 0)) ++ (seg G 0 i ++ List.drop (0 + (seg G 0 i).length) (List.replicate (n - 1) (Value.int .i64 0)))) = seg G 0 i ++ List.replicate (n - 1 - i) (Value.int .i64 0) := by simp [seg_len]
    rw [a1]
    rw [List.take_append_of_le_length (by rw [seg_len]; exact Nat.le_refl _), List.take_of_length_le (by rw [seg_len]; exact Nat.le_refl _)]
    rw [List.drop_eq_nil_of_le (by simp [seg_len]), List.append_nil]
  rw [e] at h
  refine ⟨fun k => idF (cutG G i) k, ⟨_, h, by simp [seg_len]; omega, fun k hk => ?_⟩, fun _ _ => rfl⟩
  rw [List.getElem?_toArray]
  by_cases hki : k < i
  · rw [List.getElem?_append_left (by rw [seg_len]; exact hki)]
    simp [seg, hki, idF, cutG]
  · rw [List.getElem?_append_right (by rw [seg_len]; omega), seg_len]
    have h2 : k - i < n - 1 - i := by omega
    have h3 : i + 1 + (k - i) = k + 1 := by omega
    simp [seg, h2, idF, cutG, hki, h3]
set_option maxRecDepth 100000 in
set_option maxHeartbeats 4000000 in
theorem mailTake_any (nx : Int) (j bm br n q i : Nat) (F : Int → Option FT) (G : Nat → FT) (x0 x1 x2 : Int) (x3 : ByteArray) (x4 : Int) (w : World) (hn : n ≤ 40) (hi : i < n) (X : MB w j (.int .i64 nx) (.map (some bm)) (.slice (some ⟨br, 0, none⟩) n n)) (MP : MapI w bm q F) (RW : RowF w br 3 n n (idF G)) (h1 : j ≠ bm) (h2 : j ≠ br) (h3 : bm ≠ br) (hw : (Lit.int .i64 x0).wf = true) (hG : G i = (x0, x1, x2, x3, x4)) (hF : F x0 = some (x0, x1, x2, x3, x4)) :
    Calls Try.prog 25 #[.pointer (some ⟨j, 0, none⟩), .int .i64 i] w fun e w' => ∃ b, e = .returned (.agg #[.int .i64 x0, .int .i64 x1, .int .i64 x2, .string x3, .int .i64 x4]) ∧ w.heap.size ≤ b ∧ MB w' j (.int .i64 nx) (.map (some bm)) (.slice (some ⟨b, 0, none⟩) (n - 1) (n - 1)) ∧ MapI w' bm q (fun y => if y = x0 then none else F y) ∧ RowF w' b 3 (n - 1) (n - 1) (idF (cutG G i)) ∧ But2 j bm w w' := by
  have A1 := Below.nw w (.cells #[.int .i64 0, .int .i64 0, .int .i64 0, .string ⟨#[]⟩, .int .i64 0] 30)
  have R := F5.new w 0 0 0 ⟨#[]⟩ 0 30
  have hj := X.1
  have hm := MP.lt
  have hr := RW.lt
  have U : But2 j bm w (w.alloc (.cells #[.int .i64 0, .int .i64 0, .int .i64 0, .string ⟨#[]⟩, .int .i64 0] 30)) := But2.ofBelow A1
  have ci : w.cell? ⟨br, i, none⟩ = some (.int .i64 x0) := by have h := (RW.cs (Nat.le_refl _)).2 i hi; rw [Nat.zero_add, idF, hG] at h; exact h
  replace ci := (A1.cell (p := ⟨br, i, none⟩) hr).trans ci
  replace X := X.below A1
  replace MP := MP.below A1
  replace RW := RowF.below' A1 RW
  have HG : Hid (G i = (x0, x1, x2, x3, x4)) := hG
  have HF : Hid (F x0 = some (x0, x1, x2, x3, x4)) := hF
  have hmk0 := mk_rowI (n - 1) (by omega)
  have hn1 : ((n - 1 : Nat) : Int) = (n : Int) - 1 := by omega
  rw [hn1] at hmk0
  have hli : (i : Int) < (n : Int) := by omega
  clear hG hF hn1
  obtain ⟨k0, k1, k2, k3, k4, k5, k6⟩ := id X
  go_enter Try.func25, Try.ntmps25
  go_wp2_with fail
  refine (mailAt_any nx bm br n q i F x0 x1 x2 x3 x4 _ hn hi MP (by simp; omega) ci hw HF.out).mono ?_
  rintro e v ⟨rfl, hb⟩
  clear k0 k1 k2 k3 k4 k5 k6 ci A1
  have A2 := Below.nw v (.cells #[.int .i64 x0, .int .i64 x1, .int .i64 x2, .string x3, .int .i64 x4] 30)
  have P := F5.new v x0 x1 x2 x3 x4 30
  replace X := (X.below hb).below A2
  replace MP := (MP.below hb).below A2
  replace RW := RowF.below' A2 (RowF.below' hb RW)
  replace R := (R.below hb).below A2
  replace U := (U.trans (But2.ofBelow hb)).trans (But2.ofBelow A2)
  have hRf : w.heap.size < v.heap.size := by have := hb.size; simp at this; omega
  clear hb A2
  go_wp2_with fail
  generalize v.heap.size = jf at *
  generalize v.alloc (.cells #[.int .i64 x0, .int .i64 x1, .int .i64 x2, .string x3, .int .i64 x4] 30) = v1 at *
  obtain ⟨w2, hdel, MP2, hg⟩ := (MP.drew).del hw 0
  have Bm := But.ofGrown hg
  have X2 := (X.drew).but Bm h1
  have RW2 := RowF.but (show RowF v1.drew br 3 n n (idF G) from RW) Bm (fun e => h3 e.symm)
  have R2 := (R.drew).but Bm (by omega)
  have P2 := (P.drew).but Bm (by omega)
  have U2 : But2 j bm w w2 := (But2.trans (b := v1.drew) U (But2.right Bm))
  obtain ⟨k0, k1, k2, k3, k4, k5, k6⟩ := id X
  obtain ⟨p0, p1, p2, p3, p4, p5, p6, p7, p8, p9, p10⟩ := id P
  go_region
  clear k0 k1 k2 k3 k4 k5 k6 p0 p1 p2 p3 p4 p5 p6 p7 p8 p9 p10 hdel hg Bm MP X RW R P U HF
  obtain ⟨k0, k1, k2, k3, k4, k5, k6⟩ := id X2
  go_upto_region 4 with fail
  have hZ := rowI_heap w2 (n - 1)
  have A3 := Below.nw w2 (rowObjI (n - 1))
  have s2 : w.heap.size ≤ w2.heap.size := U2.2.2.2.1
  have X3 := X2.below A3
  have MP3 := MP2.below A3
  have RW3 := RowF.below' A3 RW2
  have R3 := R2.below A3
  have P3 := P2.below A3
  have U3 := U2.trans (But2.ofBelow A3)
  have lj : j < w2.heap.size := X2.1
  have lm : bm < w2.heap.size := MP2.lt
  have lr : br < w2.heap.size := RW2.lt
  have lf : jf < w2.heap.size := P2.1
  have lR : w.heap.size < w2.heap.size := R2.1
  clear k0 k1 k2 k3 k4 k5 k6 hmk0 X2 MP2 RW2 R2 P2 U2 A3
  have hs3 : (w2.alloc (rowObjI (n - 1))).heap.size = w2.heap.size + 1 := by simp
  generalize w2.heap.size = g at *
  generalize w2.alloc (rowObjI (n - 1)) = w3 at *
  obtain ⟨k0, k1, k2, k3, k4, k5, k6⟩ := id X3
  have c1 : ∀ k v, (seg G 0 i)[k]? = some v → w3.cell? ((⟨br, 0, none⟩ : Addr).add k) = some v := by
    intro k v hv
    obtain ⟨hk, rfl⟩ := seg_get hv
    have h := (RW3.cs (Nat.le_refl _)).2 k (by omega)
    rw [Nat.zero_add]
    unfold Addr.add
    split
    · next e => subst e; exact h
    · exact h
  have hli2 : (i : Int) ≤ (n : Int) := by omega
  have HZ : Hid (w3.heap[g]? = some (.cells (List.replicate (n - 1) (Value.int .i64 0)).toArray 3 (0, 0))) := hZ
  have HC : Hid (∀ k v, (seg G 0 i)[k]? = some v → w3.cell? ((⟨br, 0, none⟩ : Addr).add k) = some v) := c1
  clear hZ c1
  obtain ⟨w4, hcp, HG4, B4⟩ : ∃ w4, (Builtin.copy_ #[38, 38] 3 #[.slice (some ⟨g, 0, none⟩) (n - 1) (n - 1), .slice (some ⟨br, 0, none⟩) i n]).run Try.prog w3 = .ok (goInt i) w4 ∧ Hid (w4.heap[g]? = some (.cells (splice (List.replicate (n - 1) (Value.int .i64 0)) 0 (seg G 0 i)).toArray 3 (0, 0))) ∧ Below g w3 w4 := by
    have h := run_copy_row (P := Try.prog) w3 38 38 3 3 g 0 (n - 1) (n - 1) ⟨br, 0, none⟩ i n (List.replicate (n - 1) (Value.int .i64 0)).toArray 3 (seg G 0 i) Try.underlying38 infoSzI HZ.out (by rw [seg_len]; exact (Nat.min_eq_left (by omega)).symm) HC.out (by simp [seg_len]; omega) (seg_one G 0 i)
    rw [seg_len] at h
    refine ⟨_, h, ?_, below_setRow (Below.refl _ _) (Nat.le_refl _) _⟩
    show _ = _
    rw [setRow_heap w3 g _ _ 3 _ HZ.out]
    simp [splice, seg_len]
  have Bg : But g w3 w4 := ⟨B4.os, B4.tape, B4.output, B4.size, fun k hk hkg => B4.block k (by omega)⟩
  have X4 := X3.but Bg (by omega)
  have MP4 := MP3.but Bg (by omega)
  have RW4 := RW3.but Bg (by omega)
  have R4 := R3.but Bg (by omega)
  have P4 := P3.but Bg (by omega)
  have U4 := U3.new B4 (by omega)
  have lg : g < w4.heap.size := by have := B4.size; omega
  go_upto_region 5 with fail
  clear k0 k1 k2 k3 k4 k5 k6 hcp HC HZ X3 MP3 RW3 R3 P3 U3 B4 Bg hs3 hli2
  obtain ⟨k0, k1, k2, k3, k4, k5, k6⟩ := id X4
  by_cases hlast : i + 1 = n
  · have e1 : (i : Int) = ((n - 1 : Nat) : Int) := by omega
    have e2 : (i : Int) + 1 = (n : Int) := by omega
    have e3 : ((n - 1 : Nat) : Int) = (n : Int) - 1 := by omega
    have hcp := run_copy_none (P := Try.prog) w4.drew 38 38 3 3 (some ⟨g, 0, none⟩) (some ⟨br, 0, none⟩) 0 0 0 0 Try.underlying38 infoSzI rfl
    have HG5 : Hid (w4.drew.heap[g]? = some (.cells (splice (splice (List.replicate (n - 1) (Value.int .i64 0)) 0 (seg G 0 i)) i (seg G (i + 1) (n - 1 - i))).toArray 3 (0, 0))) := by
      have h : w4.drew.heap[g]? = w4.heap[g]? := rfl
      show _ = _
      rw [h, HG4.out, show n - 1 - i = 0 by omega]
      simp [splice, seg]
    have X5 := X4.drew
    have MP5 := MP4.drew
    have R5 := R4.drew
    have P5 := P4.drew
    have U5 : But2 j bm w w4.drew := U4
    have lg5 : g < w4.drew.heap.size := lg
    go_region
    generalize w4.drew = w5 at *
    clear k0 k1 k2 k3 k4 k5 k6 hcp X4 MP4 RW4 R4 P4 U4
    obtain ⟨k0, k1, k2, k3, k4, k5, k6⟩ := id X5
    obtain ⟨r0, r1, r2, r3, r4, r5, r6, r7, r8, r9, r10⟩ := id R5
    obtain ⟨p0, p1, p2, p3, p4, p5, p6, p7, p8, p9, p10⟩ := id P5
    have hjr : j ≠ w.heap.size := by omega
    have hrj : w.heap.size ≠ j := by omega
    have hfj : jf ≠ j := by omega
    have hfr : jf ≠ w.heap.size := by omega
    go_wp2_with fail
    have U6 := U5.trans (But2.left (q := bm) (But.one w5 j 2 (.slice (some ⟨g, 0, none⟩) (n - 1) (n - 1))))
    have Bj := But.one w5 j 2 (.slice (some ⟨g, 0, none⟩) (n - 1) (n - 1))
    have PB := put5_but (w5.setCell ⟨j, 2, none⟩ (.slice (some ⟨g, 0, none⟩) (n - 1) (n - 1))) w.heap.size 0 (.int .i64 x0) (.int .i64 x1) (.int .i64 x2) (.string x3) (.int .i64 x4)
    exact bodyPost_ret (v := .agg #[.int .i64 x0, .int .i64 x1, .int .i64 x2, .string x3, .int .i64 x4]) (by simp (maxDischargeDepth := 6) [results, Try.results25, go_sem, *]) rfl ⟨g, rfl, by omega, (MB.set2 X5 _).but PB hjr, (MP5.but Bj (fun e => h1 e.symm)).but PB (by omega), ((take_row hi HG5.out).but Bj (by omega)).but PB (by omega), U6.new (PB.below (B := w.heap.size) (Nat.le_refl _) U6.2.2.2.1) (Nat.le_refl _)⟩
  · have e1 : (i : Int) < ((n - 1 : Nat) : Int) := by omega
    have e2 : (i : Int) + 1 < (n : Int) := by omega
    have RD : RowF w4.drew br 3 n n (idF G) := RW4
    have c2 : ∀ k v, (seg G (i + 1) (n - 1 - i))[k]? = some v → w4.drew.cell? ((⟨br, i + 1, none⟩ : Addr).add k) = some v := by
      intro k v hv
      obtain ⟨hk, rfl⟩ := seg_get hv
      have h := (RD.cs (Nat.le_refl _)).2 (i + 1 + k) (by omega)
      rw [Nat.zero_add] at h
      unfold Addr.add
      split
      · next e => subst e; exact h
      · exact h
    have hl2 : (splice (List.replicate (n - 1) (Value.int .i64 0)) 0 (seg G 0 i)).length = n - 1 := by
      rw [length_splice _ _ _ (by simp [seg_len]; omega)]; simp
    obtain ⟨w5, hcp, HG5, B5⟩ : ∃ w5, (Builtin.copy_ #[38, 38] 3 #[.slice (some ⟨g, i, none⟩) (n - 1 - i) (n - 1 - i), .slice (some ⟨br, i + 1, none⟩) (n - (i + 1)) (n - (i + 1))]).run Try.prog w4.drew = .ok (goInt ((n - 1 - i : Nat) : Int)) w5 ∧ Hid (w5.heap[g]? = some (.cells (splice (splice (List.replicate (n - 1) (Value.int .i64 0)) 0 (seg G 0 i)) i (seg G (i + 1) (n - 1 - i))).toArray 3 (0, 0))) ∧ But g w4 w5 := by
      have hg4 : w4.drew.heap[g]? = some (.cells (splice (List.replicate (n - 1) (Value.int .i64 0)) 0 (seg G 0 i)).toArray 3 (0, 0)) := HG4.out
      have h := run_copy_row (P := Try.prog) w4.drew 38 38 3 3 g i (n - 1 - i) (n - 1 - i) ⟨br, i + 1, none⟩ (n - (i + 1)) (n - (i + 1)) _ 3 (seg G (i + 1) (n - 1 - i)) Try.underlying38 infoSzI hg4 (by rw [seg_len]; exact (Nat.min_eq_right (by omega)).symm) c2 (by simp [hl2, seg_len]; omega) (seg_one G (i + 1) (n - 1 - i))
      have hl : (seg G (i + 1) (n - 1 - i)).length = n - 1 - i := seg_len _ _ _
      rw [hl] at h
      refine ⟨_, h, ?_, rfl, rfl, rfl, by simp [World.setRow], fun k hk hkg => ?_⟩
      · show _ = _
        rw [setRow_heap w4.drew g _ _ 3 _ hg4]
        simp [splice, hl]
      · exact setRow_other w4.drew g k _ hkg
    have X5 := X4.but B5 (by omega)
    have MP5 := MP4.but B5 (by omega)
    have R5 := R4.but B5 (by omega)
    have P5 := P4.but B5 (by omega)
    have U5 : But2 j bm w w5 := ⟨B5.1.trans U4.1, B5.2.1.trans U4.2.1, B5.2.2.1.trans U4.2.2.1, Nat.le_trans U4.2.2.2.1 B5.2.2.2.1, fun k hk a b => (B5.2.2.2.2 k (Nat.lt_of_lt_of_le hk U4.2.2.2.1) (by omega)).trans (U4.2.2.2.2 k hk a b)⟩
    clear RD c2 hl2
    go_region
    clear k0 k1 k2 k3 k4 k5 k6 hcp X4 MP4 RW4 R4 P4 U4
    obtain ⟨k0, k1, k2, k3, k4, k5, k6⟩ := id X5
    obtain ⟨r0, r1, r2, r3, r4, r5, r6, r7, r8, r9, r10⟩ := id R5
    obtain ⟨p0, p1, p2, p3, p4, p5, p6, p7, p8, p9, p10⟩ := id P5
    have hjr : j ≠ w.heap.size := by omega
    have hrj : w.heap.size ≠ j := by omega
    have hfj : jf ≠ j := by omega
    have hfr : jf ≠ w.heap.size := by omega
    go_wp2_with fail
    have U6 := U5.trans (But2.left (q := bm) (But.one w5 j 2 (.slice (some ⟨g, 0, none⟩) (n - 1) (n - 1))))
    have Bj := But.one w5 j 2 (.slice (some ⟨g, 0, none⟩) (n - 1) (n - 1))
    have PB := put5_but (w5.setCell ⟨j, 2, none⟩ (.slice (some ⟨g, 0, none⟩) (n - 1) (n - 1))) w.heap.size 0 (.int .i64 x0) (.int .i64 x1) (.int .i64 x2) (.string x3) (.int .i64 x4)
    exact bodyPost_ret (v := .agg #[.int .i64 x0, .int .i64 x1, .int .i64 x2, .string x3, .int .i64 x4]) (by simp (maxDischargeDepth := 6) [results, Try.results25, go_sem, *]) rfl ⟨g, rfl, by omega, (MB.set2 X5 _).but PB hjr, (MP5.but Bj (fun e => h1 e.symm)).but PB (by omega), ((take_row hi HG5.out).but Bj (by omega)).but PB (by omega), U6.new (PB.below (B := w.heap.size) (Nat.le_refl _) U6.2.2.2.1) (Nat.le_refl _)⟩

end Go.Proofs.Ytfdcjfebfbpliaa
