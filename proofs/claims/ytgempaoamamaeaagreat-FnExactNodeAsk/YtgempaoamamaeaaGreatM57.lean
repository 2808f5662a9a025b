/- The contract of impl.bookOf. -/
import Derived.Test.YtgempaoamamaeaaGreatM0
import Derived.Test.YtgempaoamamaeaaGreatM21
import Derived.Test.YtgempaoamamaeaaGreatM26
import Derived.Test.YtgempaoamamaeaaGreatM54
namespace Go.Proofs.YtgempaoamamaeaaGreat
open Go.RowKit
set_option linter.unusedVariables false
def zbk : Value := .agg #[.int .i64 0, .int .i64 0, .map none]
theorem tOk_le {ep us : Int} {M : Nat → KT} : ∀ {n k : Nat}, k ≤ n → tOk ep us M n = true → tOk ep us M k = true
  | 0, k, h, ht => by (have : k = 0 := by omega); subst this; exact ht
  | n + 1, k, h, ht => by
    by_cases e : k = n + 1
    · subst e; exact ht
    · rw [tOk, Bool.and_eq_true] at ht
      exact tOk_le (by omega) ht.1
theorem tOk_el {ep us : Int} {M : Nat → KT} {n k : Nat} (ht : tOk ep us M n = true) (h : k < n) : elB ep us M k = true := by
  have := tOk_le (k := k + 1) (by omega) ht
  rw [tOk, Bool.and_eq_true] at this
  exact this.2
theorem tOk_asc {ep us : Int} {M : Nat → KT} {n : Nat} (ht : tOk ep us M n = true) : Asc M n := by
  intro i j hij hj
  induction j with
  | zero => omega
  | succ j ih =>
    have h1 := tOk_el ht hj
    simp only [elB, lsBk, Bool.and_eq_true, decide_eq_true_eq] at h1
    have h2 := h1.1.2
    by_cases e : i = j
    · subst e; exact h2
    · have := ih (by omega) (by omega); omega
theorem tabB_tOk {ep us : Int} {M : Nat → KT} {n : Nat} (h : tabB ep us M n = true) : tOk ep us M n = true := by
  rw [tabB, Bool.and_eq_true] at h
  exact h.2
theorem tabB_len' {ep us : Int} {M : Nat → KT} {n : Nat} (h : tabB ep us M n = true) : n ≤ 16 := by
  rw [tabB] at h
  simp only [Bool.and_eq_true, decide_eq_true_eq] at h
  exact h.1.2
theorem tabB_nums {ep us : Int} {M : Nat → KT} {n : Nat} (h : tabB ep us M n = true) : (0 ≤ ep ∧ ep ≤ 100000) ∧ 0 ≤ us ∧ us ≤ 1000 := by
  rw [tabB, epB, usB] at h
  simp only [Bool.and_eq_true, decide_eq_true_eq] at h
  exact ⟨h.1.1.1, h.1.1.2⟩
set_option maxRecDepth 100000 in
set_option maxHeartbeats 16000000 in
theorem bookOf_any (ep us : Int) (a : Option Addr) (n c : Nat) (M : Nat → KT) (w : World) (hm : n ≤ maxLen) (hf : SrcC w a (n * 4) (MFAsk M)) (hw : ∀ i, i < n → (Lit.int .i64 (M i).1).wf = true) :
    Calls Tryz.prog 172 #[.agg #[.int .i64 ep, .int .i64 us, .slice a n c]] w fun e w' => ∃ V : Value, e = .returned (.tuple #[V, .bool (tabB ep us M n)]) ∧ (tabB ep us M n = false → V = zbk) ∧ (tabB ep us M n = true → ∃ bm, V = .agg #[.int .i64 ep, .int .i64 us, .map (some bm)] ∧ w.heap.size ≤ bm ∧ MapK w' bm n (lkK M n)) ∧ Below w.heap.size w w' := by
  have HF : Hid (SrcC w a (n * 4) (MFAsk M)) := hf
  have HW : Hid (∀ i, i < n → (Lit.int .i64 (M i).1).wf = true) := hw
  clear hf hw
  have z1 : (w.alloc (.cells #[.int .i64 ep, .int .i64 us, .slice a n c] 52)).heap.size = w.heap.size + 1 := by simp
  have N := (IB3.new w ep us a n c 52).below (Below.nw _ (.cells #[.int .i64 0, .int .i64 0, .map none] 232))
  have R := Bx3.new (w.alloc (.cells #[.int .i64 ep, .int .i64 us, .slice a n c] 52)) (.int .i64 0) (.int .i64 0) (.map none) 232
  rw [z1] at R
  have B := (Below.nw w (.cells #[.int .i64 ep, .int .i64 us, .slice a n c] 52)).trans ((Below.nw (w.alloc (.cells #[.int .i64 ep, .int .i64 us, .slice a n c] 52)) (.cells #[.int .i64 0, .int .i64 0, .map none] 232)).mono (by simp))
  have C := implTab_any ep us a n c M _ hm (HF.out.below B) HW.out
  clear z1
  go_enter Tryz.func172, Tryz.ntmps172
  go_upto_region 1 with fail
  generalize (w.alloc (.cells #[.int .i64 ep, .int .i64 us, .slice a n c] 52)).alloc (.cells #[.int .i64 0, .int .i64 0, .map none] 232) = wa at *
  obtain ⟨n9, n0, n1, n2⟩ := id N
  go_wp2_with fail
  refine C.mono ?_
  rintro e wz ⟨rfl, hb⟩
  clear n9 n0 n1 n2
  replace N := N.below hb
  replace R := R.below hb
  replace B := B.trans (hb.mono B.size)
  clear hb C
  cases ht : tabB ep us M n
  · have HT : Hid (tabB ep us M n = false) := ht
    clear ht
    have RQ := R.set (.int .i64 0) (.int .i64 0) (.map none)
    have BQ : Below w.heap.size w (((wz.setCell ⟨w.heap.size + 1, 0, none⟩ (.int .i64 0)).setCell ⟨w.heap.size + 1, 1, none⟩ (.int .i64 0)).setCell ⟨w.heap.size + 1, 2, none⟩ (.map none)) := ((B.setCell (by simp) _).setCell (by simp) _).setCell (by simp) _
    obtain ⟨r0, r1, r2, r3, r4, r5, r6⟩ := R
    go_wp2_with fail
    generalize (((wz.setCell ⟨w.heap.size + 1, 0, none⟩ (.int .i64 0)).setCell ⟨w.heap.size + 1, 1, none⟩ (.int .i64 0)).setCell ⟨w.heap.size + 1, 2, none⟩ (.map none)) = wq at *
    obtain ⟨q0, q1, q2, q3, q4, q5, q6⟩ := RQ
    exact bodyPost_ret (v := .tuple #[zbk, .bool false]) (by simp (maxDischargeDepth := 6) [zbk, results, Tryz.results172, go_sem, q1, q2, q3]) rfl ⟨zbk, by rw [HT.out], fun _ => rfl, fun h => (by rw [HT.out] at h; cases h), BQ⟩
  · have hn := tabB_len' ht
    have HT : Hid (tabB ep us M n = true) := ht
    clear ht hm
    go_upto_region 3 with fail
    have hmm := run_mkmapK n
    obtain ⟨n9, n0, n1, n2⟩ := id N
    go_cut [4] (fun s4 wx => ∃ bx bm : Nat, s4 = .pointer (some ⟨bx, 0, none⟩) ∧ w.heap.size + 1 < bx ∧ w.heap.size + 1 < bm ∧ bx ≠ bm ∧ Bx3 wx bx (.int .i64 ep) (.int .i64 us) (.map (some bm)) ∧ MapK wx bm 0 (fun _ => none) ∧ IB3 wx w.heap.size ep us a n c ∧ Bx3 wx (w.heap.size + 1) (.int .i64 0) (.int .i64 0) (.map none) ∧ Below w.heap.size w wx)
    case first =>
      refine wp_region_held_drew (S := (fun w' => w'.cell? ⟨w.heap.size, 0, none⟩ = some (.int .i64 ep) ∧ w'.cell? ⟨w.heap.size, 1, none⟩ = some (.int .i64 us) ∧ w'.cell? ⟨w.heap.size, 2, none⟩ = some (.slice a n c))) (by kernel_rfl) ?_ (fun hHeld => ?_)
      · first | exact ⟨n0, n1, n2⟩ | (simp (maxDischargeDepth := 6) [go_sem, *]; done)
      clear n9 n0 n1 n2
      replace N := N.drew
      replace R := R.drew
      replace B := Below.drew B
      have hR0 : w.heap.size + 1 < wz.drew.heap.size := R.1
      generalize wz.drew = v0 at *
      obtain ⟨n9, n0, n1, n2⟩ := id N
      refine zTk 0 ?_
      (try simp only [Act.put, zSb, zS0, zS1])
      refine zTk 1 ?_
      (try simp only [Act.put, zSb, zS0, zS1])
      refine zTk 2 ?_
      (try simp only [Act.put, zSb, zS0, zS1])
      refine zTk 3 ?_
      (try simp only [Act.put, zSb, zS0, zS1])
      refine zTk 4 ?_
      (try simp only [Act.put, zSb, zS0, zS1])
      refine zTk 5 ?_
      (try simp only [Act.put, zSb, zS0, zS1])
      refine zTk 6 ?_
      (try simp only [Act.put, zSb, zS0, zS1])
      refine wpAnyH_ready (rs := [7, 9]) (by kernel_rfl) (by simp) ?_
      refine (AllReadyH.cons (by rw [List.getElem?_toArray]; rfl) (fun K hK => ?_) (AllReadyH.cons (by rw [List.getElem?_toArray]; rfl) (fun K hK => ?_) AllReadyH.nil))
      · go_simp
        (have A := Below.nw v0 (.map #[] 0)); (have MP := MapK.made v0); (replace N := N.below A); (replace R := R.below A); (have hlt0 : v0.heap.size < (v0.alloc (.map #[] 0)).heap.size := by simp); (replace B := B.trans (A.mono B.size)); clear A n9 n0 n1 n2; (generalize v0.alloc (.map #[] 0) = v1 at *); obtain ⟨n9, n0, n1, n2⟩ := id N
        refine hK.out _ _ ?_ (fun hHeld => ?_)
        · first | exact ⟨n0, n1, n2⟩ | (simp (maxDischargeDepth := 6) [go_sem, *]; done)
        clear hK K
        (try simp only [Act.put, zSb, zS0, zS1])
        refine zTk 8 ?_
        (try simp only [Act.put, zSb, zS0, zS1])
        refine wpAnyH_ready (rs := [9]) (by kernel_rfl) (by simp) ?_
        refine (AllReadyH.cons (by rw [List.getElem?_toArray]; rfl) (fun K hK => ?_) AllReadyH.nil)
        go_simp
        (have A := Below.nw v1 (.cells #[.int .i64 0, .int .i64 0, .map none] 232)); (replace MP := MP.below A); (have X := Bx3.new v1 (.int .i64 0) (.int .i64 0) (.map none) 232); (replace N := N.below A); (replace R := R.below A); (have hlt1 : v1.heap.size < (v1.alloc (.cells #[.int .i64 0, .int .i64 0, .map none] 232)).heap.size := by simp); (replace B := B.trans (A.mono B.size)); clear A n9 n0 n1 n2; (generalize v1.alloc (.cells #[.int .i64 0, .int .i64 0, .map none] 232) = v2 at *); obtain ⟨n9, n0, n1, n2⟩ := id N; obtain ⟨k0, k1, k2, k3, k4, k5, k6⟩ := id X
        refine hK.out _ _ ?_ (fun hHeld => ?_)
        · first | exact ⟨n0, n1, n2⟩ | (simp (maxDischargeDepth := 6) [go_sem, *]; done)
        clear hK K
        (try simp only [Act.put, zSb, zS0, zS1])
        refine wpAnyH_ready (rs := [10]) (by kernel_rfl) (by simp) ?_
        refine (AllReadyH.cons (by rw [List.getElem?_toArray]; rfl) (fun K hK => ?_) AllReadyH.nil)
        go_simp
        refine hK.out _ _ ?_ (fun hHeld => ?_)
        · first | exact ⟨n0, n1, n2⟩ | (simp (maxDischargeDepth := 6) [go_sem, *]; done)
        clear hK K
        (try simp only [Act.put, zSb, zS0, zS1])
        refine wpAnyH_done (by kernel_rfl) ?_ _
        go_wp2_with fail
        go_meet
        case rel =>
          have PB := put3_butK v2 (v1.heap.size) (.int .i64 ep) (.int .i64 us) (.map (some (v0.heap.size)))
          have l0 := R.1
          exact ⟨v1.heap.size, v0.heap.size, rfl, by omega, by omega, by omega, X.set _ _ _, MP.but PB (by omega), N.but PB (by omega), R.but PB (by omega), B.trans (PB.below (by omega) B.size)⟩
      · go_simp
        (have A := Below.nw v0 (.cells #[.int .i64 0, .int .i64 0, .map none] 232)); (have X := Bx3.new v0 (.int .i64 0) (.int .i64 0) (.map none) 232); (replace N := N.below A); (replace R := R.below A); (have hlt0 : v0.heap.size < (v0.alloc (.cells #[.int .i64 0, .int .i64 0, .map none] 232)).heap.size := by simp); (replace B := B.trans (A.mono B.size)); clear A n9 n0 n1 n2; (generalize v0.alloc (.cells #[.int .i64 0, .int .i64 0, .map none] 232) = v1 at *); obtain ⟨n9, n0, n1, n2⟩ := id N
        refine hK.out _ _ ?_ (fun hHeld => ?_)
        · first | exact ⟨n0, n1, n2⟩ | (simp (maxDischargeDepth := 6) [go_sem, *]; done)
        clear hK K
        (try simp only [Act.put, zSb, zS0, zS1])
        refine wpAnyH_ready (rs := [7]) (by kernel_rfl) (by simp) ?_
        refine (AllReadyH.cons (by rw [List.getElem?_toArray]; rfl) (fun K hK => ?_) AllReadyH.nil)
        go_simp
        (have A := Below.nw v1 (.map #[] 0)); (replace X := X.below A); (have MP := MapK.made v1); (replace N := N.below A); (replace R := R.below A); (have hlt1 : v1.heap.size < (v1.alloc (.map #[] 0)).heap.size := by simp); (replace B := B.trans (A.mono B.size)); clear A n9 n0 n1 n2; (generalize v1.alloc (.map #[] 0) = v2 at *); obtain ⟨n9, n0, n1, n2⟩ := id N; obtain ⟨k0, k1, k2, k3, k4, k5, k6⟩ := id X
        refine hK.out _ _ ?_ (fun hHeld => ?_)
        · first | exact ⟨n0, n1, n2⟩ | (simp (maxDischargeDepth := 6) [go_sem, *]; done)
        clear hK K
        (try simp only [Act.put, zSb, zS0, zS1])
        refine zTk 8 ?_
        (try simp only [Act.put, zSb, zS0, zS1])
        refine wpAnyH_ready (rs := [10]) (by kernel_rfl) (by simp) ?_
        refine (AllReadyH.cons (by rw [List.getElem?_toArray]; rfl) (fun K hK => ?_) AllReadyH.nil)
        go_simp
        refine hK.out _ _ ?_ (fun hHeld => ?_)
        · first | exact ⟨n0, n1, n2⟩ | (simp (maxDischargeDepth := 6) [go_sem, *]; done)
        clear hK K
        (try simp only [Act.put, zSb, zS0, zS1])
        refine wpAnyH_done (by kernel_rfl) ?_ _
        go_wp2_with fail
        go_meet
        case rel =>
          have PB := put3_butK v2 (v0.heap.size) (.int .i64 ep) (.int .i64 us) (.map (some (v1.heap.size)))
          have l0 := R.1
          exact ⟨v0.heap.size, v1.heap.size, rfl, by omega, by omega, by omega, X.set _ _ _, MP.but PB (by omega), N.but PB (by omega), R.but PB (by omega), B.trans (PB.below (by omega) B.size)⟩
    case rest =>
      obtain ⟨bx, bm, rfl, hbx, hbm, hxm, X', MP', N', R', B'⟩ := hcut
      clear N R B hmm
      obtain ⟨n9, n0, n1, n2⟩ := id N'
      go_wp2_with fail
      go_loopw [23] (fun i wr => ∃ k : Nat, k ≤ n ∧ i = .int .i64 k ∧ Bx3 wr bx (.int .i64 ep) (.int .i64 us) (.map (some bm)) ∧ MapK wr bm k (lkK M k) ∧ IB3 wr w.heap.size ep us a n c ∧ Bx3 wr (w.heap.size + 1) (.int .i64 0) (.int .i64 0) (.map none) ∧ Below w.heap.size w wr) (fun i _ => n - (vI i).toNat)
      case atStart => exact ⟨0, Nat.zero_le _, rfl, X', MP', N', R', B'⟩
      case round =>
        obtain ⟨k, hk, rfl, X, MP, N, R, B⟩ := hrel
        clear X' MP' N' R' B' n9 n0 n1 n2
        by_cases hlt : k < n
        · rcases HF.out with h0 | ⟨b, off, rfl, hfs⟩
          · omega
          have bw := hfs.1
          obtain ⟨x0, x1, x2, x3, hM⟩ := tupAsk M k
          obtain ⟨c0, c1, c2, c3⟩ := (hfs.below B bw).elAsk hlt hM
          have hli : (k : Int) < (n : Int) := by omega
          have hwf : (Lit.int .i64 x0).wf = true := by have := HW.out k hlt; rw [hM] at this; exact this
          have HMK : Hid (M k = kT x0 x1 x2 x3) := hM
          have HLK : Hid (∀ y, lkK M (k + 1) y = if y = x0 then some (M k) else lkK M k y) := lkK_step (show (M k).1 = x0 by rw [hM])
          have bwr : b < wr.heap.size := Nat.lt_of_lt_of_le bw B.size
          clear hM hfs
          have A1 := Below.nw wr (.cells #[.int .i64 x0, .int .i64 x1, .int .i64 x2, .int .i64 x3] 125)
          have FB := Bk4.new wr x0 x1 x2 x3 125
          have hxf := X.1
          have hmf := MP.lt
          have hfb := R.1
          obtain ⟨_, m0, m1, m2, -, -, -⟩ := id X
          go_upto_region 7 with fail
          clear c0 c1 c2 c3 m0 m1 m2
          replace X := X.below A1
          replace MP := MP.below A1
          replace N := N.below A1
          replace R := R.below A1
          replace B := B.trans (A1.mono B.size)
          generalize hbf : wr.heap.size = bf at *
          generalize wr.alloc (.cells #[.int .i64 x0, .int .i64 x1, .int .i64 x2, .int .i64 x3] 125) = w7 at *
          clear A1
          obtain ⟨w10, hup, MP1, hg⟩ := MP.put hwf (by unfold maxLen; omega) (kT x0 x1 x2 x3)
          simp only [kv, kT] at hup
          obtain ⟨_, m0, m1, m2, -, -, -⟩ := id X
          obtain ⟨f9, f0, f1, f2, f3⟩ := id FB
          go_upto_region 8 with fail
          clear m0 m1 m2 f9 f0 f1 f2 f3 hup MP
          have PB := But.ofGrownK hg
          replace X := X.but PB hxm
          replace N := N.but PB (by omega)
          replace R := R.but PB (by omega)
          replace B := B.trans (PB.below (B := w.heap.size) (by omega) B.size)
          replace MP1 : MapK w10 bm (k + 1) (lkK M (k + 1)) := MP1.congr (fun y => by rw [HLK.out y, HMK.out])
          clear hg PB
          go_wp2_with fail
          go_roundw
          case rel => exact ⟨k + 1, by omega, by go_num, X, MP1, N, R, B⟩
          case measure => simp [vI]; omega
        · have hkn : k = n := by omega
          subst hkn
          have hli : ¬ (k : Int) < (k : Int) := by omega
          have RQ := R.set (.int .i64 ep) (.int .i64 us) (.map (some bm))
          have PB := put3_butK wr (w.heap.size + 1) (.int .i64 ep) (.int .i64 us) (.map (some bm))
          have MQ := MP.but PB (by omega)
          have BQ := B.trans (PB.below (B := w.heap.size) (by omega) B.size)
          obtain ⟨r0, r1, r2, r3, r4, r5, r6⟩ := R
          obtain ⟨y0, y1, y2, y3, -, -, -⟩ := X
          go_wp2_with fail
          clear MP
          generalize (((wr.setCell ⟨w.heap.size + 1, 0, none⟩ (.int .i64 ep)).setCell ⟨w.heap.size + 1, 1, none⟩ (.int .i64 us)).setCell ⟨w.heap.size + 1, 2, none⟩ (.map (some bm))) = wq at *
          obtain ⟨q0, q1, q2, q3, q4, q5, q6⟩ := RQ
          exact bodyPost_ret (v := .tuple #[.agg #[.int .i64 ep, .int .i64 us, .map (some bm)], .bool true]) (by simp (maxDischargeDepth := 6) [results, Tryz.results172, go_sem, q1, q2, q3]) rfl ⟨_, by rw [HT.out], fun h => (by rw [HT.out] at h; cases h), fun _ => ⟨bm, rfl, by omega, MQ⟩, BQ⟩
end Go.Proofs.YtgempaoamamaeaaGreat
