/- Rows of asks; the contract of a book its table. -/
import Derived.Test.YtgempaoamamaeaaGreatM0
import Derived.Test.YtgempaoamamaeaaGreatM26
import Derived.Test.YtgempaoamamaeaaGreatM56
namespace Go.Proofs.YtgempaoamamaeaaGreat
open Go.RowKit
set_option linter.unusedVariables false
theorem four_at (w : World) (x0 x1 x2 x3 : Int) (T : TypeId) (j : Nat) (u : Value) (h : [Value.int .i64 x0, .int .i64 x1, .int .i64 x2, .int .i64 x3][j]? = some u) : (w.alloc (.cells #[.int .i64 x0, .int .i64 x1, .int .i64 x2, .int .i64 x3] T)).cell? ((⟨w.heap.size, 0, none⟩ : Addr).add j) = some u := by
  match j, h with
  | 0, h => simp at h; subst h; simp [Addr.add]
  | 1, h => simp at h; subst h; simp [Addr.add]
  | 2, h => simp at h; subst h; simp [Addr.add]
  | 3, h => simp at h; subst h; simp [Addr.add]
theorem four_one (x0 x1 x2 x3 : Int) : ∀ u ∈ [Value.int .i64 x0, .int .i64 x1, .int .i64 x2, .int .i64 x3], u.oneCell' = true := by
  intro u hu; simp at hu; rcases hu with rfl | rfl | rfl | rfl <;> rfl
theorem mk_rowAsk0 (m : Nat) (h : m ≤ 1048576) (w : World) : (Instr.makeSlice 50 (.int .i64 0) (.int .i64 (m : Int))).run Tryz.prog w = .ok (.slice (some ⟨w.heap.size, 0, none⟩) 0 m) (w.alloc (rowObjAsk m)) := by
  obtain ⟨i, hi, hz⟩ := Option.map_eq_some_iff.1 infoAsk
  simp only [Prod.mk.injEq] at hz
  obtain ⟨h1, h2, h3⟩ := hz
  have hr := run_make (P := Tryz.prog) w 50 125 i _ Tryz.underlying50 hi h1 .i64 .i64 0 m (by omega) (by omega) (by rw [h3]; omega) (by omega)
  simp only [Int.toNat_natCast, h2, Int.toNat_zero] at hr
  exact hr
theorem MapK.wf {w : World} {b n m : Nat} {F : Int → Option KT} {A : Nat → KT} (h : MapK w b n F) (hF : FA F A m) : ∀ j, j < m → (Lit.int .i64 (A j).1).wf = true := by
  obtain ⟨D, h1, h2, _⟩ := h.keys hF
  intro j hj
  exact intKeys_wf h1 Tryz.underlying3 _ (h2.mem_iff.1 (nzs_mem.2 ⟨j, hj, rfl⟩))
theorem MapK.size {w : World} {b n m : Nat} {F : Int → Option KT} {A : Nat → KT} (h : MapK w b n F) (hF : FA F A m) : m ≤ n := by
  obtain ⟨D, h1, _, h3⟩ := h.keys hF
  have := h1.size_le
  omega
set_option maxRecDepth 100000 in
set_option maxHeartbeats 16000000 in
theorem table_any (bx bm n m : Nat) (ep us : Int) (F : Int → Option KT) (A : Nat → KT) (w : World) (X : Bx3 w bx (.int .i64 ep) (.int .i64 us) (.map (some bm))) (MP : MapK w bm n F) (hn : n ≤ 1000) (hF : FA F A m) :
    Calls Tryz.prog 173 #[.pointer (some ⟨bx, 0, none⟩)] w fun e w' => ∃ a' c', e = .returned (.agg #[.int .i64 ep, .int .i64 us, .slice a' m c']) ∧ w'.ownsRow w.heap.size 125 4 (.slice a' m c') m (krow A m) ∧ Below w.heap.size w w' := by
  have hm : m ≤ 1000 := by have := MP.size hF; omega
  have HWF : Hid (∀ j, j < m → (Lit.int .i64 (A j).1).wf = true) := MP.wf hF
  have HFA : Hid (FA F A m) := hF
  clear hF
  obtain ⟨i0, hi, hz0, hz1, hz2⟩ := infoK_parts
  have A0 := Below.nw w (.cells #[.int .i64 0, .int .i64 0, .slice none 0 0] 52)
  have R := Bx3.new w (.int .i64 0) (.int .i64 0) (.slice none 0 0) 52
  have hbx := X.1
  have hbm := MP.lt
  replace X := X.below A0
  replace MP := MP.below A0
  have B := A0
  clear A0
  go_enter Tryz.func173, Tryz.ntmps173
  go_upto_region 1 with fail
  generalize w.alloc (.cells #[.int .i64 0, .int .i64 0, .slice none 0 0] 52) = wz at *
  have hmk := mk_rowAsk0 m (by omega)
  obtain ⟨x0, x1, x2, x3, -, -, -⟩ := id X
  have HLEN : Hid (∀ W : World, MapK W bm n F → ∀ ty, (Builtin.len_ #[230] ty #[.map (some bm)]).run Tryz.prog W = .ok (.int .i64 (m : Int)) W) := fun W h ty => h.len HFA.out ty
  go_cut [3] (fun s3 wx => ∃ bo br : Nat, s3 = .pointer (some ⟨bo, 0, none⟩) ∧ w.heap.size < bo ∧ w.heap.size < br ∧ bo ≠ br ∧ Bx3 wx bo (.int .i64 ep) (.int .i64 us) (.slice (some ⟨br, 0, none⟩) 0 m) ∧ wx.ownsRow (w.heap.size + 1) 125 4 (.slice (some ⟨br, 0, none⟩) 0 m) 0 [] ∧ Bx3 wx bx (.int .i64 ep) (.int .i64 us) (.map (some bm)) ∧ MapK wx bm n F ∧ Bx3 wx w.heap.size (.int .i64 0) (.int .i64 0) (.slice none 0 0) ∧ Below w.heap.size w wx)
  case first =>
    refine wp_region_held_drew (S := (fun w' => w'.cell? ⟨bx, 0, none⟩ = some (.int .i64 ep) ∧ w'.cell? ⟨bx, 1, none⟩ = some (.int .i64 us) ∧ w'.cell? ⟨bx, 2, none⟩ = some (.map (some bm)) ∧ ∀ ty, (Builtin.len_ #[230] ty #[.map (some bm)]).run Tryz.prog w' = .ok (.int .i64 (m : Int)) w')) (by kernel_rfl) ?_ (fun hHeld => ?_)
    · first | exact ⟨x1, x2, x3, HLEN.out _ MP⟩ | (refine ⟨?_, ?_, ?_, HLEN.out _ (((MP.setCell ?_ _).setCell ?_ _).setCell ?_ _)⟩ <;> first | (simp (maxDischargeDepth := 6) [go_sem, *]; done) | (simp; omega))
    clear x0 x1 x2 x3
    replace X := X.drew
    replace MP := MP.drew
    replace R := R.drew
    replace B := Below.drew B
    have hR0 : w.heap.size < wz.drew.heap.size := R.1
    generalize wz.drew = v0 at *
    obtain ⟨x0, x1, x2, x3, -, -, -⟩ := id X
    refine zTk 0 ?_
    (try simp only [Act.put, zSb, zS0, zS1])
    refine zTk 1 ?_
    (try simp only [Act.put, zSb, zS0, zS1])
    refine zTk 2 ?_
    (try simp only [Act.put, zSb, zS0, zS1])
    refine zTk 3 ?_
    (try simp only [Act.put, zSb, zS0, zS1])
    refine zTk 4 ?_
    (try simp only [Act.put, zSb, zS0, zS1])
    refine zTk 5 ?_
    (try simp only [Act.put, zSb, zS0, zS1])
    refine zTk 6 ?_
    (try simp only [Act.put, zSb, zS0, zS1])
    refine zTk 7 ?_
    (try simp only [Act.put, zSb, zS0, zS1])
    refine zTk 8 ?_
    (try simp only [Act.put, zSb, zS0, zS1])
    refine zTk 9 ?_
    (try simp only [Act.put, zSb, zS0, zS1])
    refine zTk 10 ?_
    (try simp only [Act.put, zSb, zS0, zS1])
    refine zTk 11 ?_
    (try simp only [Act.put, zSb, zS0, zS1])
    refine zTk 12 ?_
    (try simp only [Act.put, zSb, zS0, zS1])
    refine wpAnyH_ready (rs := [13, 15]) (by kernel_rfl) (by simp) ?_
    refine (AllReadyH.cons (by rw [List.getElem?_toArray]; rfl) (fun K hK => ?_) (AllReadyH.cons (by rw [List.getElem?_toArray]; rfl) (fun K hK => ?_) AllReadyH.nil))
    · go_simp
      (have AA := Below.nw v0 (rowObjAsk m)); (have RW := World.ownsRow_made (base := w.heap.size + 1) (size := 4) (e := 125) v0 (madeCells #[.int .i64 0, .int .i64 0, .int .i64 0, .int .i64 0] (m * 4)) m (by omega) (by unfold maxLen; omega) (by rw [size_madeCells])); (replace RW : (v0.alloc (rowObjAsk m)).ownsRow (w.heap.size + 1) 125 4 (.slice (some ⟨v0.heap.size, 0, none⟩) 0 m) 0 [] := RW); (replace X := X.below AA); (replace MP := MP.below AA); (replace R := R.below AA); (have hlt0 : v0.heap.size < (v0.alloc (rowObjAsk m)).heap.size := by first | (simp; done) | (simp [rowObjAsk]; done)); (replace B := B.trans (AA.mono B.size)); clear AA x0 x1 x2 x3; (generalize v0.alloc (rowObjAsk m) = v1 at *); obtain ⟨x0, x1, x2, x3, -, -, -⟩ := id X
      refine hK.out _ _ ?_ (fun hHeld => ?_)
      · first | exact ⟨x1, x2, x3, HLEN.out _ MP⟩ | (refine ⟨?_, ?_, ?_, HLEN.out _ (((MP.setCell ?_ _).setCell ?_ _).setCell ?_ _)⟩ <;> first | (simp (maxDischargeDepth := 6) [go_sem, *]; done) | (simp; omega))
      clear hK K
      (try simp only [Act.put, zSb, zS0, zS1])
      refine zTk 14 ?_
      (try simp only [Act.put, zSb, zS0, zS1])
      refine wpAnyH_ready (rs := [15]) (by kernel_rfl) (by simp) ?_
      refine (AllReadyH.cons (by rw [List.getElem?_toArray]; rfl) (fun K hK => ?_) AllReadyH.nil)
      go_simp
      (have AA := Below.nw v1 (.cells #[.int .i64 0, .int .i64 0, .slice none 0 0] 52)); (replace RW := World.ownsRow.alloc RW (.cells #[.int .i64 0, .int .i64 0, .slice none 0 0] 52)); (have OB := Bx3.new v1 (.int .i64 0) (.int .i64 0) (.slice none 0 0) 52); (replace X := X.below AA); (replace MP := MP.below AA); (replace R := R.below AA); (have hlt1 : v1.heap.size < (v1.alloc (.cells #[.int .i64 0, .int .i64 0, .slice none 0 0] 52)).heap.size := by first | (simp; done) | (simp [rowObjAsk]; done)); (replace B := B.trans (AA.mono B.size)); clear AA x0 x1 x2 x3; (generalize v1.alloc (.cells #[.int .i64 0, .int .i64 0, .slice none 0 0] 52) = v2 at *); obtain ⟨x0, x1, x2, x3, -, -, -⟩ := id X; obtain ⟨k0, k1, k2, k3, k4, k5, k6⟩ := id OB
      refine hK.out _ _ ?_ (fun hHeld => ?_)
      · first | exact ⟨x1, x2, x3, HLEN.out _ MP⟩ | (refine ⟨?_, ?_, ?_, HLEN.out _ (((MP.setCell ?_ _).setCell ?_ _).setCell ?_ _)⟩ <;> first | (simp (maxDischargeDepth := 6) [go_sem, *]; done) | (simp; omega))
      clear hK K
      (try simp only [Act.put, zSb, zS0, zS1])
      refine wpAnyH_ready (rs := [16]) (by kernel_rfl) (by simp) ?_
      refine (AllReadyH.cons (by rw [List.getElem?_toArray]; rfl) (fun K hK => ?_) AllReadyH.nil)
      go_simp
      refine hK.out _ _ ?_ (fun hHeld => ?_)
      · first | exact ⟨x1, x2, x3, HLEN.out _ MP⟩ | (refine ⟨?_, ?_, ?_, HLEN.out _ (((MP.setCell ?_ _).setCell ?_ _).setCell ?_ _)⟩ <;> first | (simp (maxDischargeDepth := 6) [go_sem, *]; done) | (simp; omega))
      clear hK K
      (try simp only [Act.put, zSb, zS0, zS1])
      refine wpAnyH_done (by kernel_rfl) ?_ _
      go_wp2_with fail
      go_meet
      case rel =>
        have PB := put3_butK v2 (v1.heap.size) (.int .i64 ep) (.int .i64 us) (.slice (some ⟨v0.heap.size, 0, none⟩) 0 m)
        have l0 := R.1
        exact ⟨v1.heap.size, v0.heap.size, rfl, by omega, by omega, by omega, OB.set _ _ _, own_neK RW PB (fun g hg => by simp [Value.ownBlock] at hg; omega), X.but PB (by omega), MP.but PB (by omega), R.but PB (by omega), B.trans (PB.below (by omega) B.size)⟩
    · go_simp
      (have AA := Below.nw v0 (.cells #[.int .i64 0, .int .i64 0, .slice none 0 0] 52)); (have OB := Bx3.new v0 (.int .i64 0) (.int .i64 0) (.slice none 0 0) 52); (replace X := X.below AA); (replace MP := MP.below AA); (replace R := R.below AA); (have hlt0 : v0.heap.size < (v0.alloc (.cells #[.int .i64 0, .int .i64 0, .slice none 0 0] 52)).heap.size := by first | (simp; done) | (simp [rowObjAsk]; done)); (replace B := B.trans (AA.mono B.size)); clear AA x0 x1 x2 x3; (generalize v0.alloc (.cells #[.int .i64 0, .int .i64 0, .slice none 0 0] 52) = v1 at *); obtain ⟨x0, x1, x2, x3, -, -, -⟩ := id X
      refine hK.out _ _ ?_ (fun hHeld => ?_)
      · first | exact ⟨x1, x2, x3, HLEN.out _ MP⟩ | (refine ⟨?_, ?_, ?_, HLEN.out _ (((MP.setCell ?_ _).setCell ?_ _).setCell ?_ _)⟩ <;> first | (simp (maxDischargeDepth := 6) [go_sem, *]; done) | (simp; omega))
      clear hK K
      (try simp only [Act.put, zSb, zS0, zS1])
      refine wpAnyH_ready (rs := [13]) (by kernel_rfl) (by simp) ?_
      refine (AllReadyH.cons (by rw [List.getElem?_toArray]; rfl) (fun K hK => ?_) AllReadyH.nil)
      go_simp
      (have AA := Below.nw v1 (rowObjAsk m)); (replace OB := OB.below AA); (have RW := World.ownsRow_made (base := w.heap.size + 1) (size := 4) (e := 125) v1 (madeCells #[.int .i64 0, .int .i64 0, .int .i64 0, .int .i64 0] (m * 4)) m (by omega) (by unfold maxLen; omega) (by rw [size_madeCells])); (replace RW : (v1.alloc (rowObjAsk m)).ownsRow (w.heap.size + 1) 125 4 (.slice (some ⟨v1.heap.size, 0, none⟩) 0 m) 0 [] := RW); (replace X := X.below AA); (replace MP := MP.below AA); (replace R := R.below AA); (have hlt1 : v1.heap.size < (v1.alloc (rowObjAsk m)).heap.size := by first | (simp; done) | (simp [rowObjAsk]; done)); (replace B := B.trans (AA.mono B.size)); clear AA x0 x1 x2 x3; (generalize v1.alloc (rowObjAsk m) = v2 at *); obtain ⟨x0, x1, x2, x3, -, -, -⟩ := id X; obtain ⟨k0, k1, k2, k3, k4, k5, k6⟩ := id OB
      refine hK.out _ _ ?_ (fun hHeld => ?_)
      · first | exact ⟨x1, x2, x3, HLEN.out _ MP⟩ | (refine ⟨?_, ?_, ?_, HLEN.out _ (((MP.setCell ?_ _).setCell ?_ _).setCell ?_ _)⟩ <;> first | (simp (maxDischargeDepth := 6) [go_sem, *]; done) | (simp; omega))
      clear hK K
      (try simp only [Act.put, zSb, zS0, zS1])
      refine zTk 14 ?_
      (try simp only [Act.put, zSb, zS0, zS1])
      refine wpAnyH_ready (rs := [16]) (by kernel_rfl) (by simp) ?_
      refine (AllReadyH.cons (by rw [List.getElem?_toArray]; rfl) (fun K hK => ?_) AllReadyH.nil)
      go_simp
      refine hK.out _ _ ?_ (fun hHeld => ?_)
      · first | exact ⟨x1, x2, x3, HLEN.out _ MP⟩ | (refine ⟨?_, ?_, ?_, HLEN.out _ (((MP.setCell ?_ _).setCell ?_ _).setCell ?_ _)⟩ <;> first | (simp (maxDischargeDepth := 6) [go_sem, *]; done) | (simp; omega))
      clear hK K
      (try simp only [Act.put, zSb, zS0, zS1])
      refine wpAnyH_done (by kernel_rfl) ?_ _
      go_wp2_with fail
      go_meet
      case rel =>
        have PB := put3_butK v2 (v0.heap.size) (.int .i64 ep) (.int .i64 us) (.slice (some ⟨v1.heap.size, 0, none⟩) 0 m)
        have l0 := R.1
        exact ⟨v0.heap.size, v1.heap.size, rfl, by omega, by omega, by omega, OB.set _ _ _, own_neK RW PB (fun g hg => by simp [Value.ownBlock] at hg; omega), X.but PB (by omega), MP.but PB (by omega), R.but PB (by omega), B.trans (PB.below (by omega) B.size)⟩
  case rest =>
    obtain ⟨bo, br, rfl, hbo, hbr, hor, O', W', X', MP', R', B'⟩ := hcut
    clear X MP R B hmk x0 x1 x2 x3 HLEN
    go_wp2_with fail
    have CN := nonces_any bx bm n m _ _ F A wc X' MP' hn HFA.out
    have hbo1 := O'.1
    have hbr1 := (World.ownsRow.lt W' br rfl).2
    refine CN.mono ?_
    rintro e w2 ⟨vz, rfl, Z', hb⟩
    replace O' := O'.below hb
    replace W' := own_belK' W' hb
    replace X' := X'.below hb
    replace MP' := MP'.below hb
    replace R' := R'.below hb
    replace B' := B'.trans (hb.mono B'.size)
    clear hb CN
    replace Z' : w2.ownsRow wc.heap.size 3 1 vz m ((List.range (m * 1)).map fun j => Value.int .i64 (A j).1) := by rw [Nat.mul_one]; exact Z'
    obtain ⟨az, cz, rfl, hcz, hcz2, SZ'⟩ := ownF_src Z'
    have hgzo : ∀ q : Addr, az = some q → q.off = 0 := by
      rcases Z'.2 with ⟨e, _⟩ | ⟨g, cap, cur, e, _⟩
      · intro q hq; rw [hq] at e; simp at e
      · intro q hq; rw [hq] at e; simp at e; rw [e.1]
    have hgz : ∀ g, az = some ⟨g, 0, none⟩ → wc.heap.size ≤ g := fun g e => (World.ownsRow.lt Z' g (by rw [e]; rfl)).1
    go_wp2_with fail
    generalize wc.heap.size = jz at *
    clear Z'
    go_loopw [24] (fun s24 wr => ∃ k : Nat, k ≤ m ∧ s24 = .int .i64 (k : Int) ∧ Bx3 wr bo (.int .i64 ep) (.int .i64 us) (.slice (some ⟨br, 0, none⟩) k m) ∧ wr.ownsRow (w.heap.size + 1) 125 4 (.slice (some ⟨br, 0, none⟩) k m) k (krow A k) ∧ Bx3 wr bx (.int .i64 ep) (.int .i64 us) (.map (some bm)) ∧ MapK wr bm n F ∧ Bx3 wr w.heap.size (.int .i64 0) (.int .i64 0) (.slice none 0 0) ∧ SrcC wr az (m * 1) (fun j => Value.int .i64 (A j).1) ∧ Below w.heap.size w wr) (fun s24 _ => m - (vI s24).toNat)
    case atStart => exact ⟨0, Nat.zero_le _, rfl, O', W', X', MP', R', SZ', B'⟩
    case round =>
      clear O' W' X' MP' R' SZ' B'
      obtain ⟨k, hk, rfl, O, W, X, MP, R, SZ, B⟩ := hrel
      by_cases hlt : k < m
      · have hli : (k : Int) < (m : Int) := by omega
        rcases SZ with h0 | ⟨g, off, rfl, CZ⟩
        · omega
        obtain ⟨y0, y1, y2, y3, hA⟩ := tupAsk A k
        have cz0 : wr.cell? ⟨g, off + k, none⟩ = some (.int .i64 (A k).1) := CZ.2 k (by omega)
        rw [hA] at cz0
        have HW : Hid (krow A k ++ [.int .i64 y0, .int .i64 y1, .int .i64 y2, .int .i64 y3] = krow A (k + 1)) := krow_add hA
        have HL : Hid (∀ W : World, MapK W bm n F → (Instr.lookup 230 (.map (some bm)) (.int .i64 y0) false).run Tryz.prog W = .ok (.agg #[.int .i64 y0, .int .i64 y1, .int .i64 y2, .int .i64 y3]) W) := fun W h => by
          have q := h.look (HWF.out k hlt)
          rw [HFA.out.2.1 k hlt, hA] at q
          exact q
        have hg0 : off = 0 := by
          cases off with
          | zero => rfl
          | succ q => exact absurd (hgzo _ rfl) (by simp)
        subst hg0
        rw [Nat.zero_add] at cz0
        have hgj := hgz g rfl
        have hgl := CZ.1
        clear hA
        obtain ⟨x0, x1, x2, x3, -, -, -⟩ := id X
        obtain ⟨o0, o1, o2, o3, o4, o5, o6⟩ := id O
        have hvw : w.heap.size + 1 ≤ wr.heap.size := R.1
        go_upto_region 5 with fail
        refine wp_region_held_drew (S := (fun w' => w'.cell? ⟨bx, 2, none⟩ = some (.map (some bm)) ∧ (Instr.lookup 230 (.map (some bm)) (.int .i64 y0) false).run Tryz.prog w' = .ok (.agg #[.int .i64 y0, .int .i64 y1, .int .i64 y2, .int .i64 y3]) w')) (by kernel_rfl) ?_ (fun hHeld => ?_)
        · first | exact ⟨x3, HL.out _ MP⟩ | (refine ⟨?_, HL.out _ (MP.setCell ?_ _)⟩ <;> first | (simp (maxDischargeDepth := 6) [go_sem, *]; done) | (simp; omega))
        clear x0 x1 x2 x3 o0 o1 o2 o3 o4 o5 o6
        replace X := X.drew
        replace O := O.drew
        replace R := R.drew
        replace MP := MP.drew
        replace CZ := CZ.drew
        replace B := Below.drew B
        replace W := World.ownsRow.drew W
        generalize wr.drew = v at *
        (obtain ⟨x0, x1, x2, x3, -, -, -⟩ := id X); (obtain ⟨o0, o1, o2, o3, o4, o5, o6⟩ := id O)
        refine zTk 0 ?_
        (try simp only [Act.put, zSb, zS0, zS1])
        refine zTk 2 ?_
        (try simp only [Act.put, zSb, zS0, zS1])
        refine zTk 3 ?_
        (try simp only [Act.put, zSb, zS0, zS1])
        refine zTk 4 ?_
        (try simp only [Act.put, zSb, zS0, zS1])
        refine zTk 5 ?_
        (try simp only [Act.put, zSb, zS0, zS1])
        refine zTk 6 ?_
        (try simp only [Act.put, zSb, zS0, zS1])
        refine zTk 7 ?_
        (try simp only [Act.put, zSb, zS0, zS1])
        refine wpAnyH_ready (rs := [1, 8]) (by kernel_rfl) (by simp) ?_
        refine (AllReadyH.cons (by rw [List.getElem?_toArray]; rfl) (fun K hK => ?_) (AllReadyH.cons (by rw [List.getElem?_toArray]; rfl) (fun K hK => ?_) AllReadyH.nil))
        · go_simp
          refine hK.out _ _ ?_ (fun hHeld => ?_)
          · first | exact ⟨x3, HL.out _ MP⟩ | (refine ⟨?_, HL.out _ (MP.setCell ?_ _)⟩ <;> first | (simp (maxDischargeDepth := 6) [go_sem, *]; done) | (simp; omega))
          clear hK K
          (try simp only [Act.put, zSb, zS0, zS1])
          refine wpAnyH_ready (rs := [8]) (by kernel_rfl) (by simp) ?_
          refine (AllReadyH.cons (by rw [List.getElem?_toArray]; rfl) (fun K hK => ?_) AllReadyH.nil)
          go_simp
          (have AA := Below.nw v (.cells #[.int .i64 y0, .int .i64 y1, .int .i64 y2, .int .i64 y3] 125)); (have HFF : Hid (∀ j u, [Value.int .i64 y0, .int .i64 y1, .int .i64 y2, .int .i64 y3][j]? = some u → (v.alloc (.cells #[.int .i64 y0, .int .i64 y1, .int .i64 y2, .int .i64 y3] 125)).cell? ((⟨v.heap.size, 0, none⟩ : Addr).add j) = some u) := fun j u hu => four_at v y0 y1 y2 y3 125 j u hu); clear x0 x1 x2 x3 o0 o1 o2 o3 o4 o5 o6; (replace X := X.below AA); (replace O := O.below AA); (replace R := R.below AA); (replace MP := MP.below AA); (replace CZ := CZ.below AA CZ.1); (replace W := World.ownsRow.alloc W (.cells #[.int .i64 y0, .int .i64 y1, .int .i64 y2, .int .i64 y3] 125)); (replace B := B.trans (AA.mono B.size)); clear AA; (generalize v.alloc (.cells #[.int .i64 y0, .int .i64 y1, .int .i64 y2, .int .i64 y3] 125) = v2 at *); (generalize v.heap.size = jv at *); (obtain ⟨x0, x1, x2, x3, -, -, -⟩ := id X); (obtain ⟨o0, o1, o2, o3, o4, o5, o6⟩ := id O)
          refine hK.out _ _ ?_ (fun hHeld => ?_)
          · first | exact ⟨x3, HL.out _ MP⟩ | (refine ⟨?_, HL.out _ (MP.setCell ?_ _)⟩ <;> first | (simp (maxDischargeDepth := 6) [go_sem, *]; done) | (simp; omega))
          clear hK K
          (try simp only [Act.put, zSb, zS0, zS1])
          refine wpAnyH_ready (rs := [9]) (by kernel_rfl) (by simp) ?_
          refine (AllReadyH.cons (by rw [List.getElem?_toArray]; rfl) (fun K hK => ?_) AllReadyH.nil)
          rw [if_pos (by rfl)]; refine wp_append_own_spare _ _ _ 50 rfl (w.heap.size + 1) 125 i0 4 Tryz.underlying50 hi hz1 br k m (krow A k) rfl W ⟨jv, 0, none⟩ 1 1 [.int .i64 y0, .int .i64 y1, .int .i64 y2, .int .i64 y3] rfl rfl HFF.out (four_one _ _ _ _) (by omega) ?_; intro wn hown' hgrow; (have G := But.ofGrownK hgrow); clear x0 x1 x2 x3 o0 o1 o2 o3 o4 o5 o6; (replace X := X.but G (by omega)); (replace O := O.but G (by omega)); (replace R := R.but G (by omega)); (replace MP := MP.but G (by omega)); (replace CZ := CZ.but G (by omega)); (replace B := B.trans (G.below (by omega) B.size)); rw [HW.out] at hown'; clear hgrow HFF; (obtain ⟨x0, x1, x2, x3, -, -, -⟩ := id X); (obtain ⟨o0, o1, o2, o3, o4, o5, o6⟩ := id O)
          refine hK.out _ _ ?_ (fun hHeld => ?_)
          · first | exact ⟨x3, HL.out _ MP⟩ | (refine ⟨?_, HL.out _ (MP.setCell ?_ _)⟩ <;> first | (simp (maxDischargeDepth := 6) [go_sem, *]; done) | (simp; omega))
          clear hK K
          (try simp only [Act.put, zSb, zS0, zS1])
          refine zTk 10 ?_
          (try simp only [Act.put, zSb, zS0, zS1])
          refine wpAnyH_ready (rs := [11]) (by kernel_rfl) (by simp) ?_
          refine (AllReadyH.cons (by rw [List.getElem?_toArray]; rfl) (fun K hK => ?_) AllReadyH.nil)
          go_simp
          refine hK.out _ _ ?_ (fun hHeld => ?_)
          · first | exact ⟨x3, HL.out _ MP⟩ | (refine ⟨?_, HL.out _ (MP.setCell ?_ _)⟩ <;> first | (simp (maxDischargeDepth := 6) [go_sem, *]; done) | (simp; omega))
          clear hK K
          (try simp only [Act.put, zSb, zS0, zS1])
          refine wpAnyH_done (by kernel_rfl) ?_ _
          go_wp2_with fail
          have PB := But.oneK wn bo 2 (.slice (some ⟨br, 0, none⟩) (k + 1) m)
          go_roundw
          case rel => exact ⟨k + 1, by omega, by go_num, O.set2 _, own_neK hown' PB (fun g hg => by simp [Value.ownBlock] at hg; omega), X.but PB (by omega), MP.but PB (by omega), R.but PB (by omega), .inr ⟨g, 0, rfl, CZ.but PB (by omega)⟩, B.trans (PB.below (by omega) B.size)⟩
          case measure => simp [vI]; omega
        · go_simp
          (have AA := Below.nw v (.cells #[.int .i64 y0, .int .i64 y1, .int .i64 y2, .int .i64 y3] 125)); (have HFF : Hid (∀ j u, [Value.int .i64 y0, .int .i64 y1, .int .i64 y2, .int .i64 y3][j]? = some u → (v.alloc (.cells #[.int .i64 y0, .int .i64 y1, .int .i64 y2, .int .i64 y3] 125)).cell? ((⟨v.heap.size, 0, none⟩ : Addr).add j) = some u) := fun j u hu => four_at v y0 y1 y2 y3 125 j u hu); clear x0 x1 x2 x3 o0 o1 o2 o3 o4 o5 o6; (replace X := X.below AA); (replace O := O.below AA); (replace R := R.below AA); (replace MP := MP.below AA); (replace CZ := CZ.below AA CZ.1); (replace W := World.ownsRow.alloc W (.cells #[.int .i64 y0, .int .i64 y1, .int .i64 y2, .int .i64 y3] 125)); (replace B := B.trans (AA.mono B.size)); clear AA; (generalize v.alloc (.cells #[.int .i64 y0, .int .i64 y1, .int .i64 y2, .int .i64 y3] 125) = v2 at *); (generalize v.heap.size = jv at *); (obtain ⟨x0, x1, x2, x3, -, -, -⟩ := id X); (obtain ⟨o0, o1, o2, o3, o4, o5, o6⟩ := id O)
          refine hK.out _ _ ?_ (fun hHeld => ?_)
          · first | exact ⟨x3, HL.out _ MP⟩ | (refine ⟨?_, HL.out _ (MP.setCell ?_ _)⟩ <;> first | (simp (maxDischargeDepth := 6) [go_sem, *]; done) | (simp; omega))
          clear hK K
          (try simp only [Act.put, zSb, zS0, zS1])
          refine wpAnyH_ready (rs := [1]) (by kernel_rfl) (by simp) ?_
          refine (AllReadyH.cons (by rw [List.getElem?_toArray]; rfl) (fun K hK => ?_) AllReadyH.nil)
          go_simp
          refine hK.out _ _ ?_ (fun hHeld => ?_)
          · first | exact ⟨x3, HL.out _ MP⟩ | (refine ⟨?_, HL.out _ (MP.setCell ?_ _)⟩ <;> first | (simp (maxDischargeDepth := 6) [go_sem, *]; done) | (simp; omega))
          clear hK K
          (try simp only [Act.put, zSb, zS0, zS1])
          refine wpAnyH_ready (rs := [9]) (by kernel_rfl) (by simp) ?_
          refine (AllReadyH.cons (by rw [List.getElem?_toArray]; rfl) (fun K hK => ?_) AllReadyH.nil)
          rw [if_pos (by rfl)]; refine wp_append_own_spare _ _ _ 50 rfl (w.heap.size + 1) 125 i0 4 Tryz.underlying50 hi hz1 br k m (krow A k) rfl W ⟨jv, 0, none⟩ 1 1 [.int .i64 y0, .int .i64 y1, .int .i64 y2, .int .i64 y3] rfl rfl HFF.out (four_one _ _ _ _) (by omega) ?_; intro wn hown' hgrow; (have G := But.ofGrownK hgrow); clear x0 x1 x2 x3 o0 o1 o2 o3 o4 o5 o6; (replace X := X.but G (by omega)); (replace O := O.but G (by omega)); (replace R := R.but G (by omega)); (replace MP := MP.but G (by omega)); (replace CZ := CZ.but G (by omega)); (replace B := B.trans (G.below (by omega) B.size)); rw [HW.out] at hown'; clear hgrow HFF; (obtain ⟨x0, x1, x2, x3, -, -, -⟩ := id X); (obtain ⟨o0, o1, o2, o3, o4, o5, o6⟩ := id O)
          refine hK.out _ _ ?_ (fun hHeld => ?_)
          · first | exact ⟨x3, HL.out _ MP⟩ | (refine ⟨?_, HL.out _ (MP.setCell ?_ _)⟩ <;> first | (simp (maxDischargeDepth := 6) [go_sem, *]; done) | (simp; omega))
          clear hK K
          (try simp only [Act.put, zSb, zS0, zS1])
          refine zTk 10 ?_
          (try simp only [Act.put, zSb, zS0, zS1])
          refine wpAnyH_ready (rs := [11]) (by kernel_rfl) (by simp) ?_
          refine (AllReadyH.cons (by rw [List.getElem?_toArray]; rfl) (fun K hK => ?_) AllReadyH.nil)
          go_simp
          refine hK.out _ _ ?_ (fun hHeld => ?_)
          · first | exact ⟨x3, HL.out _ MP⟩ | (refine ⟨?_, HL.out _ (MP.setCell ?_ _)⟩ <;> first | (simp (maxDischargeDepth := 6) [go_sem, *]; done) | (simp; omega))
          clear hK K
          (try simp only [Act.put, zSb, zS0, zS1])
          refine wpAnyH_done (by kernel_rfl) ?_ _
          go_wp2_with fail
          have PB := But.oneK wn bo 2 (.slice (some ⟨br, 0, none⟩) (k + 1) m)
          go_roundw
          case rel => exact ⟨k + 1, by omega, by go_num, O.set2 _, own_neK hown' PB (fun g hg => by simp [Value.ownBlock] at hg; omega), X.but PB (by omega), MP.but PB (by omega), R.but PB (by omega), .inr ⟨g, 0, rfl, CZ.but PB (by omega)⟩, B.trans (PB.below (by omega) B.size)⟩
          case measure => simp [vI]; omega
      · have hkn : k = m := by omega
        subst hkn
        have hli : ¬ (k : Int) < (k : Int) := by omega
        have RQ := R.set (.int .i64 ep) (.int .i64 us) (.slice (some ⟨br, 0, none⟩) k k)
        have PB := put3_butK wr w.heap.size (.int .i64 ep) (.int .i64 us) (.slice (some ⟨br, 0, none⟩) k k)
        have WQ := ownK_le (base' := w.heap.size) (own_butK W PB (by omega)) (by omega)
        have BQ := B.trans (PB.below (B := w.heap.size) (by omega) B.size)
        obtain ⟨r0, r1, r2, r3, r4, r5, r6⟩ := R
        obtain ⟨o0, o1, o2, o3, -, -, -⟩ := O
        clear W MP X SZ PB
        go_wp2_with fail
        generalize (((wr.setCell ⟨w.heap.size, 0, none⟩ (.int .i64 ep)).setCell ⟨w.heap.size, 1, none⟩ (.int .i64 us)).setCell ⟨w.heap.size, 2, none⟩ (.slice (some ⟨br, 0, none⟩) k k)) = wq at *
        obtain ⟨q0, q1, q2, q3, q4, q5, q6⟩ := RQ
        exact bodyPost_ret (v := .agg #[.int .i64 ep, .int .i64 us, .slice (some ⟨br, 0, none⟩) k k]) (by simp (maxDischargeDepth := 6) [results, Tryz.results173, go_sem, q1, q2, q3]) rfl ⟨_, _, rfl, WQ, BQ⟩
end Go.Proofs.YtgempaoamamaeaaGreat
