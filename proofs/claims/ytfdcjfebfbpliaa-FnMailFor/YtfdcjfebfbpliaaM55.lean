/- The walk of FnMailFor. -/
import Derived.Test.YtfdcjfebfbpliaaM52
import Derived.Test.YtfdcjfebfbpliaaM53
import Derived.Test.YtfdcjfebfbpliaaM54
import Derived.Test.YtfdcjfebfbpliaaK1
import Derived.Test.YtfdcjfebfbpliaaN60
import Derived.Deep.RegionHeld3
import Derived.Deep.QuietTactic
import Derived.BigQuiet
import Derived.WalkKit
import Derived.WalkSpells
import Derived.WalkLawsBesides
import Derived.Deep.RegionHeld
namespace Go.Proofs.Ytfdcjfebfbpliaa
open Go.RowKit
set_option linter.unusedVariables false
theorem kF_wf {M : Nat → FT} {n : Nat} (nd : Int) (h : fwf M n) : fwf (kF M nd n) (kc M nd n) := fun j hj => by
  obtain ⟨i, h1, h2, _⟩ := kF_from M nd n j hj
  rw [h2]; exact h i h1
theorem below_drewN5 {B : Nat} {a w : World} (h : Below B a w) (n : Nat) : Below B a (w.drewN n) := h.trans ⟨rfl, rfl, rfl, Nat.le_refl _, fun _ _ => rfl⟩
set_option maxRecDepth 100000 in
set_option maxHeartbeats 8000000 in
theorem walkMailFor (a : Option Addr) (n c : Nat) (w : World) (hcode : CodeB w w.heap.size a n) :
    Calls Try.prog 4 #[.slice a n c] w fun e w' => e = .returned (.bool true) ∧ Below w.heap.size w w' := by
  have HC : Hid (CodeB w w.heap.size a n) := hcode
  clear hcode
  by_cases hbig : 1048576 < n
  · have hd : decide (1048576 < (n : Int)) = true := by simp; omega
    go_enter Try.func4, Try.ntmps4
    go_wp2_with fail
    refine (big_any _ _ _ _).mono ?_
    rintro e w' ⟨rfl, rfl⟩
    rw [hd]
    go_wp2_with fail
    go_ret
    exact ⟨rfl, Below.refl _ _⟩
  · have hd : decide (1048576 < (n : Int)) = false := by simp; omega
    go_enter Try.func4, Try.ntmps4
    go_wp2_with fail
    refine (big_any _ _ _ _).mono ?_
    rintro e w' ⟨rfl, rfl⟩
    rw [hd]
    go_wp2_with fail
    refine (DrawNetCut_any a n c _ (by omega) HC.out).mono ?_
    rintro e w1 ⟨nx, A, m, c', M, nd, rfl, hm, hk, o1, B1⟩
    obtain ⟨A2, c2, e2, _, _, S⟩ := ownF_src o1
    injection e2 with e2 e3 e4
    subst e2 e4
    have HS : Hid (SrcC w1 A (m * 5) (MFFlight M)) := S
    clear S e3 o1 hbig HC hd
    have hmm : m ≤ maxLen := by unfold maxLen; omega
    have HZ : Hid (∀ i, i < m → ((M i).2.2.2.1).size ≤ maxLen) := fun i hi => by have := (hk i hi).2; unfold maxLen; omega
    have HW : Hid (∀ i, i < m → (Lit.int .i64 (M i).1).wf = true) := fun i hi => (hk i hi).1
    have CO := fun (v : World) (hb : Below w1.heap.size w1 v) => specNetOk_any nx A m c' M v hmm (HS.out.below hb) HZ.out
    have CI := fun (v : World) (hb : Below w1.heap.size w1 v) => implNetOk_any nx A m c' M v hmm (HS.out.below hb) HZ.out HW.out
    have CFr := fun (k : Int) (v : World) (hb : Below w1.heap.size w1 v) => implNetFor_any nx A m c' M k v hmm (HS.out.below hb) HZ.out HW.out
    have hB1 := B1.size
    have B := Below.nw w1 (.cells #[.int .i64 nx, .slice A m c'] 26)
    have N := NB.new w1 nx A m c' 26
    go_upto_region 4 with fail
    generalize hjp : w1.alloc (.cells #[.int .i64 nx, .slice A m c'] 26) = v1 at *
    obtain ⟨jp, hjp2⟩ : ∃ jp, w1.heap.size = jp := ⟨_, rfl⟩
    rw [hjp2] at N
    rw [hjp2]
    clear hjp
    obtain ⟨n0, n1, n2⟩ := id N
    go_wp2_with fail
    refine (CO _ B).mono ?_
    rintro e w2 ⟨rfl, hb⟩
    clear n0 n1 n2 CO
    replace N := N.below hb
    replace B := B.trans (hb.mono B.size)
    clear hb
    cases hN : netB nx M m
    · rw [hN] at CI
      have hL : ∀ k, forR nx M m k = [] := fun k => forR_no hN
      simp only [hL] at CFr
      obtain ⟨n0, n1, n2⟩ := id N
      go_wp2_with fail
      refine (CI _ B).mono ?_
      rintro e w3 ⟨rfl, hb⟩
      clear n0 n1 n2 CI
      replace N := N.below hb
      replace B := B.trans (hb.mono B.size)
      clear hb
      obtain ⟨n0, n1, n2⟩ := id N
      go_wp2_with fail
      refine (CFr nd _ B).mono ?_
      rintro e w4 ⟨v4, rfl, o4, hb⟩
      clear n0 n1 n2 CFr
      obtain ⟨a4, c4, rfl, _, _, _⟩ := ownI_src o4
      replace B := B.trans (hb.mono B.size)
      clear hb o4 N
      go_wp2_with fail
      go_ret
      exact ⟨rfl, B1.trans (B.mono hB1)⟩
    · have hm40 := netB_40 hN
      have hL : ∀ k, forR nx M m k = forL M k m := fun k => forR_ok hN
      simp only [hL] at CFr
      have HT : Hid (sm M m 8 = m) := sm_all (to_node hN)
      have HCU : Hid (CuIs nx M m nd nx (kc M nd m) (kF M nd m)) := .inr ⟨hN, rfl, rfl, rfl⟩
      have HNC : Hid (netB nx (kF M nd m) (kc M nd m) = true) := netB_cut nd hN
      have HKW : Hid (fwf (kF M nd m) (kc M nd m)) := kF_wf nd hk
      have hkm := kc_le M nd m
      clear hL CI
      go_wp2_with fail
      go_loopw [5, 6] (fun s k wr => ∃ K : Nat, K ≤ 8 ∧ k = .int .i64 K ∧ s = .int .i64 (sm M m K : Nat) ∧ sm M m K ≤ 41 * K ∧ NB wr jp nx A m c' ∧ Below w1.heap.size w1 wr) (fun _ k _ => 8 - (intOf k).toNat)
      case atStart => exact ⟨0, by omega, rfl, rfl, by simp [sm], N, B⟩
      case round =>
        clear N B
        obtain ⟨K, hK, rfl, rfl, hs, N, B⟩ := hrel
        by_cases hlt : K < 8
        · have hli : (K : Int) < 8 := by omega
          have hstep : sm M m (K + 1) = sm M m K + (forL M (K : Int) m).length := rfl
          have HFA : Hid (∀ i, i < (forL M (K : Int) m).length → ∃ e : Nat, e < m ∧ (forL M (K : Int) m).getD i 0 = (e : Int) ∧ tuF (M e) = (K : Int)) := forL_at M K m
          have hfl := forL_len M (K : Int) m
          have CF1 := CFr (K : Int)
          generalize forL M (K : Int) m = L at *
          obtain ⟨q, hq⟩ : ∃ q, sm M m K = q := ⟨_, rfl⟩
          rw [hq] at hs hstep
          rw [hq]
          obtain ⟨n0, n1, n2⟩ := id N
          go_wp2_with fail
          refine (CF1 _ B).mono ?_
          rintro e w3 ⟨v3, rfl, o3, hb⟩
          clear n0 n1 n2 CF1
          obtain ⟨a3, c3, rfl, _, _, S3⟩ := ownI_src o3
          have HS3 : Hid (SrcC w3 a3 L.length (itF L)) := S3
          replace N := N.below hb
          replace B := B.trans (hb.mono B.size)
          clear hb o3 S3
          go_wp2_with fail
          go_loopw [8] (fun i wr2 => ∃ j : Nat, j ≤ L.length ∧ i = .int .i64 j ∧ NB wr2 jp nx A m c' ∧ Below w1.heap.size w1 wr2 ∧ Hid (SrcC wr2 a3 L.length (itF L))) (fun i _ => L.length - (intOf i).toNat)
          case atStart => exact ⟨0, Nat.zero_le _, rfl, N, B, HS3⟩
          case round =>
            clear N B HS3
            obtain ⟨j, hj, rfl, N, B, HS3⟩ := hrel
            by_cases hjl : j < L.length
            · have hji : (j : Int) < (L.length : Int) := by omega
              obtain ⟨e9, h91, h92, h93⟩ := HFA.out j hjl
              rcases HS3.out with h0 | ⟨b3, f3, rfl, hc3⟩
              · omega
              rcases HS.out with h0 | ⟨b1, f1, rfl, hc1⟩
              · omega
              have d1 := show _ = _ from (hc3.2 j hjl).trans (congrArg (fun z => some (Value.int .i64 z)) h92)
              have d1' : True := trivial
              -- ⟨b3, f3 + j, none⟩ = some (.int .i64 (e9 : Int)) := by rw [hc3.2 j hjl]; simp only [itF]; rw [h92]
              have d2 := (Cs.elFlight (hc1.below B hc1.1) h91 rfl).2.2.1
              rw [show (M e9).2.2.1 = (K : Int) from h93] at d2
              have d3 : (e9 : Int) < (m : Int) := by omega
              have d4 : decide ((m : Int) ≤ (e9 : Int)) = false := by simp; omega
              have d5 : decide ((e9 : Int) < 0) = false := by simp
              obtain ⟨n0, n1, n2⟩ := id N
              have HS4 : Hid (SrcC _ (some ⟨b3, f3, none⟩) L.length (itF L)) := HS3
              clear h92 h93 hc3 hc1 d1'
              go_wp2_with fail
              go_quiet (fail)
              go_wp2_with fail
              go_roundw
              case rel => exact ⟨j + 1, by omega, by go_num, N, below_drewN5 B nq, HS4⟩
              case measure => simp [intOf]; omega
            · have hjl2 : j = L.length := by omega
              subst hjl2
              have hjd : decide ((L.length : Int) < (L.length : Int)) = false := by simp
              go_wp2_with fail
              go_roundw
              case rel => exact ⟨K + 1, by omega, by go_num, by rw [hstep]; go_num, by omega, N, B⟩
              case measure => simp [intOf]; omega
        · have hK8 : K = 8 := by omega
          subst hK8
          rw [HT.out]
          have HKA : Hid (∀ i, i < m → cuB nd (M i) = false → kF M nd m (kc M nd i) = M i ∧ kc M nd i < kc M nd m) := fun i hi hc => ⟨kF_at hc hi, by have := kc_mono (M := M) (nd := nd) (show i + 1 ≤ m by omega); rw [(kc_keep hc).1] at this; omega⟩
          have CC := fun (v : World) (hb : Below w1.heap.size w1 v) => implNetCut0_any nx nd A m c' M nx (kc M nd m) (kF M nd m) v hmm (HS.out.below hb) HZ.out HW.out HCU.out
          obtain ⟨mm, hmm9⟩ : ∃ q, kc M nd m = q := ⟨_, rfl⟩
          have HMM : Hid (kc M nd m = mm) := hmm9
          rw [hmm9] at CC HKA HNC HKW hkm
          generalize kF M nd m = G at *
          clear hmm9 CFr HT HCU hs hlt
          obtain ⟨n0, n1, n2⟩ := id N
          go_wp2_with fail
          refine (CC _ B).mono ?_
          rintro e w5 ⟨a5, c5, rfl, O5, hb⟩
          clear n0 n1 n2 CC
          obtain ⟨A6, c6, e6, _, _, S5⟩ := ownF_src O5
          injection e6 with e6 e7 e8
          subst e6 e8
          replace N := N.below hb
          replace B := B.trans (hb.mono B.size)
          clear hb O5 e7
          have A5 := Below.nw w5 (.cells #[.int .i64 nx, .slice a5 mm c5] 26)
          have X := NB.new w5 nx a5 mm c5 26
          replace S5 := S5.below A5
          replace N := N.below A5
          replace B := B.trans (A5.mono B.size)
          clear A5
          go_upto_region 18 with fail
          generalize w5.heap.size = jq at *
          generalize w5.alloc (.cells #[.int .i64 nx, .slice a5 mm c5] 26) = v5 at *
          have HS5 : Hid (SrcC v5 a5 (mm * 5) (MFFlight G)) := S5
          clear S5
          go_wp2_with fail
          go_loopw [10, 11] (fun s i wr => ∃ k : Nat, k ≤ m ∧ s = .int .i64 (kc M nd k : Nat) ∧ i = .int .i64 k ∧ NB wr jp nx A m c' ∧ NB wr jq nx a5 mm c5 ∧ Below w1.heap.size w1 wr ∧ Hid (SrcC wr a5 (mm * 5) (MFFlight G))) (fun _ i _ => m - (intOf i).toNat)
          case atStart => exact ⟨0, Nat.zero_le _, rfl, rfl, N, X, B, HS5⟩
          case round =>
            clear N X B HS5
            obtain ⟨k, hk9, rfl, rfl, N, X, B, HS5⟩ := hrel
            by_cases hkl : k < m
            · have hki : (k : Int) < (m : Int) := by omega
              have HA := HKA.out k hkl
              have hc1e : cuB nd (M k) = true → kc M nd (k + 1) = kc M nd k := fun h => (kc_cut h).1
              have hc0e : cuB nd (M k) = false → kc M nd (k + 1) = kc M nd k + 1 := fun h => (kc_keep h).1
              have hkk := kc_le M nd k
              obtain ⟨x0, x1, x2, x3, x4, hM⟩ : ∃ (x0 x1 x2 : Int) (x3 : ByteArray) (x4 : Int), M k = (x0, x1, x2, x3, x4) := ⟨_, _, _, _, _, rfl⟩
              rcases HS.out with h0 | ⟨b1, f1, rfl, hc1⟩
              · omega
              obtain ⟨g0, g1', g2, g3, g4⟩ := Cs.elFlight (hc1.below B hc1.1) hkl hM
              have hcu : cuB nd (M k) = decide (x1 = nd ∨ x2 = nd) := by rw [hM]; rfl
              rw [hcu] at HA hc1e hc0e
              obtain ⟨q, hq⟩ : ∃ q, kc M nd k = q := ⟨_, rfl⟩
              rw [hq] at HA hc1e hc0e hkk
              rw [hq]
              obtain ⟨n0, n1, n2⟩ := id N
              obtain ⟨y0, y1, y2⟩ := id X
              clear hc1 hcu
              by_cases e1 : x1 = nd
              · subst e1
                have E := hc1e (by simp)
                clear hc1e hc0e HA
                go_wp2_with fail
                go_roundw
                case rel => exact ⟨k + 1, by omega, by rw [E], by go_num, N, X, B, HS5⟩
                case measure => simp [intOf]; omega
              · have b1' : (x1 != nd) = true := by simpa using e1
                have b1'' : (x1 == nd) = false := by simpa using e1
                by_cases e2 : x2 = nd
                · subst e2
                  have E := hc1e (by simp)
                  clear hc1e hc0e HA
                  go_wp2_with fail
                  go_roundw
                  case rel => exact ⟨k + 1, by omega, by rw [E], by go_num, N, X, B, HS5⟩
                  case measure => simp [intOf]; omega
                · have b2' : (x2 != nd) = true := by simpa using e2
                  have b2'' : (x2 == nd) = false := by simpa using e2
                  have hf9 : decide (x1 = nd ∨ x2 = nd) = false := by simp [e1, e2]
                  have E := hc0e hf9
                  obtain ⟨HA1, HA2⟩ := HA hf9
                  rw [hM] at HA1
                  rcases HS5.out with h0 | ⟨b5, f5, rfl, hc5⟩
                  · omega
                  obtain ⟨t0, t1, t2, t3, t4⟩ := Cs.elFlight hc5 HA2 HA1
                  have d3 : (q : Int) < (mm : Int) := by omega
                  have d4 : decide ((mm : Int) ≤ (q : Int)) = false := by simp; omega
                  clear hc1e hc0e HA hc5
                  go_wp2_with fail
                  go_quiet (fail)
                  go_wp2_with fail
                  go_roundw
                  case rel => exact ⟨k + 1, by omega, by rw [E]; go_num, by go_num, N, X, below_drewN5 B nq, HS5⟩
                  case measure => simp [intOf]; omega
            · have hkm2 : k = m := by omega
              subst hkm2
              have hkd : decide ((k : Int) < (k : Int)) = false := by simp
              rw [HMM.out]
              have CI2 := fun (v : World) (hv : SrcC v a5 (mm * 5) (MFFlight G)) => implNetOk_any nx a5 mm c5 G v (by unfold maxLen at *; omega) hv (fun i hi => by have := (HKW.out i hi).2; unfold maxLen; omega) (fun i hi => (HKW.out i hi).1)
              rw [HNC.out] at CI2
              obtain ⟨n0, n1, n2⟩ := id N
              obtain ⟨y0, y1, y2⟩ := id X
              go_wp2_with fail
              refine (CI2 _ HS5.out).mono ?_
              rintro e w9 ⟨rfl, hb⟩
              replace B := B.trans (hb.mono B.size)
              clear n0 n1 n2 y0 y1 y2 hb
              go_wp2_with fail
              go_ret
              exact ⟨rfl, B1.trans (B.mono hB1)⟩
end Go.Proofs.Ytfdcjfebfbpliaa
