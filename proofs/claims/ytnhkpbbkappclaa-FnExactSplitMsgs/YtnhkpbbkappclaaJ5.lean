/- What SplitMsgs comes to, and the contract of spec.SplitMsgs. -/
import Derived.Test.YtnhkpbbkappclaaJ4
import Derived.Deep.DeepCutAuto
import Derived.WalkKit
import Derived.WalkSpells
import Derived.WalkLawsBesides
import Derived.Deep.RegionHeld
namespace Go.Proofs.Ytnhkpbbkappclaa
open Go.RowKit
set_option linter.unusedVariables false
def spl (f : Nat → Int) (n : Nat) : Nat → Nat → List MT × Nat × Int
  | 0, x => ([], x, if x < n then 6 else 0)
  | r + 1, x => if n ≤ x then ([], x, 0) else if (getI f n x).2.2 = false then ([], x, 4) else if (n : Int) - (getI f n x).2.1 < (getI f n x).1 then ([], x, 1)
    else if ¬ (unp (fun i => f ((getI f n x).2.1.toNat + i)) (getI f n x).1.toNat).1 = 0 then ([], x, (unp (fun i => f ((getI f n x).2.1.toNat + i)) (getI f n x).1.toNat).1)
    else ((unp (fun i => f ((getI f n x).2.1.toNat + i)) (getI f n x).1.toNat).2 :: (spl f n r ((getI f n x).2.1.toNat + (getI f n x).1.toNat)).1, (spl f n r ((getI f n x).2.1.toNat + (getI f n x).1.toNat)).2)
theorem spl_end {f : Nat → Int} {n x : Nat} (h : ¬ x < n) : ∀ r, spl f n r x = ([], x, 0)
  | 0 => by rw [spl, if_neg h]
  | r + 1 => by rw [spl, if_pos (by omega)]
theorem spl_full {f : Nat → Int} {n x : Nat} (h : x < n) : spl f n 0 x = ([], x, 6) := by rw [spl, if_pos h]
theorem spl_num {f : Nat → Int} {n x r : Nat} (h : x < n) (h1 : (getI f n x).2.2 = false) : spl f n (r + 1) x = ([], x, 4) := by rw [spl, if_neg (by omega), if_pos h1]
theorem spl_short {f : Nat → Int} {n x r X N : Nat} (h : x < n) (h1 : getI f n x = ((N : Int), (X : Int), true)) (h2 : (n : Int) - X < N) : spl f n (r + 1) x = ([], x, 1) := by
  rw [spl, if_neg (by omega), h1, if_neg (by simp), if_pos h2]
theorem spl_code {f : Nat → Int} {n x r X N : Nat} {q : Int} (h : x < n) (h1 : getI f n x = ((N : Int), (X : Int), true)) (h2 : ¬ (n : Int) - X < N) (h3 : (unp (fun i => f (X + i)) N).1 = q) (h4 : ¬ q = 0) : spl f n (r + 1) x = ([], x, q) := by
  rw [spl, if_neg (by omega), h1, if_neg (by simp), if_neg h2]
  simp only [Int.toNat_natCast]
  rw [if_pos (by rw [h3]; exact h4), h3]
theorem spl_go {f : Nat → Int} {n x r X N : Nat} {M : MT} (h : x < n) (h1 : getI f n x = ((N : Int), (X : Int), true)) (h2 : ¬ (n : Int) - X < N) (h3 : unp (fun i => f (X + i)) N = (0, M)) : spl f n (r + 1) x = (M :: (spl f n r (X + N)).1, (spl f n r (X + N)).2) := by
  rw [spl, if_neg (by omega), h1, if_neg (by simp), if_neg h2]
  simp only [Int.toNat_natCast]
  rw [if_neg (by rw [h3]; simp), h3]
theorem spl_app {f : Nat → Int} {n r x : Nat} {A : List MT} {M : MT} {r' x' : Nat} (h : spl f n 40 0 = (A ++ (spl f n r x).1, (spl f n r x).2)) (hg : spl f n r x = (M :: (spl f n r' x').1, (spl f n r' x').2)) : spl f n 40 0 = ((A ++ [M]) ++ (spl f n r' x').1, (spl f n r' x').2) := by
  rw [h, hg]
  simp
theorem spl_stop {f : Nat → Int} {n r x : Nat} {A : List MT} {q : Int} (h : spl f n 40 0 = (A ++ (spl f n r x).1, (spl f n r x).2)) (hg : spl f n r x = ([], x, q)) : spl f n 40 0 = (A, x, q) := by
  rw [h, hg]
  simp
def mT (x0 x1 x2 x3 x4 x5 x6 : Int) (x7 : ByteArray) : MT := (x0, x1, x2, x3, x4, x5, x6, x7)
def mvs (A : List MT) : List Value := A.flatMap fun M => [.int .i64 M.1, .int .i64 M.2.1, .int .i64 M.2.2.1, .int .i64 M.2.2.2.1, .int .i64 M.2.2.2.2.1, .int .i64 M.2.2.2.2.2.1, .int .i64 M.2.2.2.2.2.2.1, .string M.2.2.2.2.2.2.2]
theorem mvs_add (A : List MT) (x0 : Int) (x1 : Int) (x2 : Int) (x3 : Int) (x4 : Int) (x5 : Int) (x6 : Int) (x7 : ByteArray) : mvs (A ++ [mT x0 x1 x2 x3 x4 x5 x6 x7]) = mvs A ++ [.int .i64 x0, .int .i64 x1, .int .i64 x2, .int .i64 x3, .int .i64 x4, .int .i64 x5, .int .i64 x6, .string x7] := by
  unfold mvs
  rw [List.flatMap_append]
  rfl
theorem mvs_cons (M : MT) (A : List MT) : mvs (M :: A) = [.int .i64 M.1, .int .i64 M.2.1, .int .i64 M.2.2.1, .int .i64 M.2.2.2.1, .int .i64 M.2.2.2.2.1, .int .i64 M.2.2.2.2.2.1, .int .i64 M.2.2.2.2.2.2.1, .string M.2.2.2.2.2.2.2] ++ mvs A := rfl
theorem mvs_len : ∀ A : List MT, (mvs A).length = A.length * 8
  | [] => rfl
  | M :: A => by
    have := mvs_len A
    rw [mvs_cons, List.length_append, this]
    simp
    omega
theorem mvs_at : ∀ (A : List MT) (j : Nat), j < A.length * 8 → (mvs A)[j]? = some (MFMsg (fun i => A.getD i zT) j)
  | [], j, h => by simp at h
  | M :: A, j, h => by
    rw [mvs_cons]
    by_cases hj : j < 8
    · rw [List.getElem?_append_left (by simpa using hj)]
      have e : MFMsg (fun i => (M :: A).getD i zT) j = MCMsg M j := by
        rw [MFMsg, show j / 8 = 0 by omega, show j % 8 = j by omega]
        rfl
      rw [e]
      match j, hj with
      | 0, _ => rfl
      | 1, _ => rfl
      | 2, _ => rfl
      | 3, _ => rfl
      | 4, _ => rfl
      | 5, _ => rfl
      | 6, _ => rfl
      | 7, _ => rfl
    · rw [List.getElem?_append_right (by simp; omega)]
      have e : MFMsg (fun i => (M :: A).getD i zT) j = MFMsg (fun i => A.getD i zT) (j - 8) := by
        rw [MFMsg, MFMsg, show j / 8 = (j - 8) / 8 + 1 by omega, show j % 8 = (j - 8) % 8 by omega]
        rfl
      rw [e]
      exact mvs_at A (j - 8) (by simp at h; omega)
theorem ownM_src {w : World} {base : Nat} {v : Value} {A : List MT} (h : w.ownsRow base 32 8 v A.length (mvs A)) : ∃ a c, v = .slice a A.length c ∧ A.length ≤ c ∧ c ≤ maxLen ∧ SrcC w a (A.length * 8) (MFMsg fun i => A.getD i zT) := by
  rcases h.2 with ⟨rfl, h0⟩ | ⟨g, cap, cur, rfl, hb, hg, hc, hm, hs, ht⟩
  · exact ⟨none, 0, by rw [h0], by omega, by simp [maxLen], .inl (by omega)⟩
  · refine ⟨_, cap, rfl, hc, hm, .inr ⟨g, 0, rfl, (Array.getElem?_eq_some_iff.1 hg).1, fun i hi => ?_⟩⟩
    have hu := mvs_at A i hi
    rw [← ht, List.getElem?_take, if_pos (by omega)] at hu
    simp [World.cell?, hg]
    simpa using hu
theorem eight_at (w : World) (x0 : Int) (x1 : Int) (x2 : Int) (x3 : Int) (x4 : Int) (x5 : Int) (x6 : Int) (x7 : ByteArray) (T : TypeId) (j : Nat) (u : Value) (h : [Value.int .i64 x0, .int .i64 x1, .int .i64 x2, .int .i64 x3, .int .i64 x4, .int .i64 x5, .int .i64 x6, .string x7][j]? = some u) : (w.alloc (.cells #[.int .i64 x0, .int .i64 x1, .int .i64 x2, .int .i64 x3, .int .i64 x4, .int .i64 x5, .int .i64 x6, .string x7] T)).cell? ((⟨w.heap.size, 0, none⟩ : Addr).add j) = some u := by
  match j, h with
  | 0, h => simp at h; subst h; simp [Addr.add]
  | 1, h => simp at h; subst h; simp [Addr.add]
  | 2, h => simp at h; subst h; simp [Addr.add]
  | 3, h => simp at h; subst h; simp [Addr.add]
  | 4, h => simp at h; subst h; simp [Addr.add]
  | 5, h => simp at h; subst h; simp [Addr.add]
  | 6, h => simp at h; subst h; simp [Addr.add]
  | 7, h => simp at h; subst h; simp [Addr.add]
theorem eight_one (x0 : Int) (x1 : Int) (x2 : Int) (x3 : Int) (x4 : Int) (x5 : Int) (x6 : Int) (x7 : ByteArray) : ∀ u ∈ [Value.int .i64 x0, .int .i64 x1, .int .i64 x2, .int .i64 x3, .int .i64 x4, .int .i64 x5, .int .i64 x6, .string x7], u.oneCell' = true := by
  intro u hu
  simp at hu
  rcases hu with rfl | rfl | rfl | rfl | rfl | rfl | rfl | rfl <;> rfl
theorem ownM_new (w : World) (base : Nat) (hb : base ≤ w.heap.size) : (w.alloc (.cells #[] 32)).ownsRow base 32 8 (.slice (some ⟨w.heap.size, 0, none⟩) 0 0) ([] : List MT).length (mvs []) := World.ownsRow_made w #[] 0 hb (by simp [maxLen]) (by simp)
set_option maxHeartbeats 1000000 in
theorem specSplitMsgs_zero (a : Option Addr) (c : Nat) (f : Nat → Int) (w : World) :
    Calls Try.prog 24 #[.slice a 0 c] w fun e w' => ∃ v : Value, e = .returned (.tuple #[v, .int .i64 (spl f 0 40 0).2.1, .int .i64 (spl f 0 40 0).2.2]) ∧ w'.ownsRow w.heap.size 32 8 v (spl f 0 40 0).1.length (mvs (spl f 0 40 0).1) ∧ Below w.heap.size w w' := by
  have hS : spl f 0 40 0 = ([], 0, 0) := spl_end (by omega) 40
  go_enter Try.func24, Try.ntmps24
  go_wp2_with fail
  go_loopw [5, 6] (fun v i wr => i = .int .i64 0 ∧ v = .slice (some ⟨w.heap.size, 0, none⟩) 0 0 ∧ w.alloc (.cells #[] 32) = wr) (fun _ i _ => 0)
  case atStart => exact ⟨rfl, rfl, by first | rfl | trivial⟩
  case round =>
    obtain ⟨rfl, rfl, rfl⟩ := hrel
    go_wp2_with fail
    exact bodyPost_ret (v := .tuple #[.slice (some ⟨w.heap.size, 0, none⟩) 0 0, .int .i64 0, .int .i64 0]) (by simp [results, Try.results24, go_sem]) rfl ⟨_, by rw [hS]; rfl, by rw [hS]; exact ownM_new w _ (Nat.le_refl _), Below.nw _ _⟩
set_option maxHeartbeats 8000000 in
theorem specSplitMsgs_some (b off n c : Nat) (f : Nat → Int) (w : World) (hn : n ≤ 1048576) (hc : n ≤ c) (hcm : c ≤ maxLen) (hf : Byts w b off n f) (hr : ∀ i, i < n → 0 ≤ f i ∧ f i ≤ 255) :
    Calls Try.prog 24 #[.slice (some ⟨b, off, none⟩) n c] w fun e w' => ∃ v : Value, e = .returned (.tuple #[v, .int .i64 (spl f n 40 0).2.1, .int .i64 (spl f n 40 0).2.2]) ∧ w'.ownsRow w.heap.size 32 8 v (spl f n 40 0).1.length (mvs (spl f n 40 0).1) ∧ Below w.heap.size w w' := by
  obtain ⟨i0, hi, hz0, hz1, hz2⟩ := info_parts infoMsg
  have HF : Hid (Byts w b off n f) := hf
  have HR : Hid (∀ i, i < n → 0 ≤ f i ∧ f i ≤ 255) := hr
  have HCM : Hid (c ≤ maxLen) := hcm
  unfold maxLen at hcm
  clear hf hr
  go_enter Try.func24, Try.ntmps24
  go_wp2_with fail
  go_loopw [5, 6] (fun v i wr => ∃ (A : List MT) (x r : Nat), i = .int .i64 x ∧ x ≤ n ∧ r + A.length = 40 ∧ spl f n 40 0 = (A ++ (spl f n r x).1, (spl f n r x).2) ∧ wr.ownsRow w.heap.size 32 8 v A.length (mvs A) ∧ Below w.heap.size w wr) (fun _ i _ => n - (intOf i).toNat)
  case atStart => exact ⟨[], 0, 40, rfl, Nat.zero_le _, rfl, rfl, ownM_new w _ (Nat.le_refl _), Below.nw _ _⟩
  case round =>
    obtain ⟨A, x, r, rfl, hx, hra, hsp, O, hB⟩ := hrel
    have HSP : Hid (spl f n 40 0 = (A ++ (spl f n r x).1, (spl f n r x).2)) := hsp
    clear hsp
    by_cases hlt : x < n
    · have hli : (x : Int) < (n : Int) := by omega
      obtain ⟨aw, cw, rfl, hAc, hAm, -⟩ := ownM_src O
      match r, hra, HSP with
      | 0, hra, HSP =>
        have h40 : ((A.length : Int) == 40) = true := by simp; omega
        have HS : Hid (spl f n 40 0 = _) := spl_stop HSP.out (spl_full hlt)
        clear HSP
        go_wp2_with fail
        exact bodyPost_ret (v := .tuple #[.slice aw A.length cw, .int .i64 x, .int .i64 6]) (by simp [results, Try.results24, go_sem]) rfl ⟨_, by rw [HS.out], by rw [HS.out]; exact O, hB⟩
      | r + 1, hra, HSP =>
        have h40 : ((A.length : Int) == 40) = false := by simp; omega
        have CG := specGetNum_any (some ⟨b, off, none⟩) n c x f wr (Nat.le_trans hc HCM.out) (.inr ⟨b, off, rfl, HF.out.below hB HF.out.1⟩) HR.out
        cases hok : (getI f n x).2.2
        · have HS : Hid (spl f n 40 0 = _) := spl_stop HSP.out (spl_num hlt hok)
          rw [hok] at CG
          generalize (getI f n x).1 = g1 at *
          generalize (getI f n x).2.1 = g2 at *
          clear HSP
          go_wp2_with fail
          refine CG.mono ?_
          rintro e w' ⟨rfl, rfl⟩
          go_wp2_with fail
          exact bodyPost_ret (v := .tuple #[.slice aw A.length cw, .int .i64 x, .int .i64 4]) (by simp [results, Try.results24, go_sem]) rfl ⟨_, by rw [HS.out], by rw [HS.out]; exact O, hB⟩
        · have hbd := getI_bd (f := f) (n := n) (x := x) (fun i hi => (HR.out i hi).1) hok
          obtain ⟨N, hN⟩ := Int.eq_ofNat_of_zero_le hbd.1
          obtain ⟨X, hX⟩ := Int.eq_ofNat_of_zero_le (show 0 ≤ (getI f n x).2.1 by omega)
          have hG : getI f n x = ((N : Int), (X : Int), true) := Prod.ext hN (Prod.ext hX hok)
          rw [hN, hX, hok] at CG
          rw [hN, hX] at hbd
          obtain ⟨-, hxX, hXn⟩ := hbd
          clear hN hX hok
          have hwn : IntKind.i64.wrap ((n : Int) - (X : Int)) = (n : Int) - (X : Int) := Go.IntWalk.i64_in _ ⟨by omega, by omega⟩
          by_cases hsh : (n : Int) - X < N
          · have HS : Hid (spl f n 40 0 = _) := spl_stop HSP.out (spl_short hlt hG hsh)
            clear HSP hG
            go_wp2_with fail
            refine CG.mono ?_
            rintro e w' ⟨rfl, rfl⟩
            go_wp2_with fail
            exact bodyPost_ret (v := .tuple #[.slice aw A.length cw, .int .i64 x, .int .i64 1]) (by simp [results, Try.results24, go_sem]) rfl ⟨_, by rw [HS.out], by rw [HS.out]; exact O, hB⟩
          · have HNS : Hid (¬ (n : Int) - X < N) := hsh
            have hle : X + N ≤ n := by omega
            have hwx : IntKind.i64.wrap ((X : Int) + (N : Int)) = (X : Int) + (N : Int) := Go.IntWalk.i64_in _ ⟨by omega, by omega⟩
            have hb1 : 0 ≤ (X : Int) + (N : Int) ∧ (X : Int) + (N : Int) ≤ (c : Int) := ⟨by omega, by omega⟩
            have hb3 : 0 ≤ (X : Int) ∧ (X : Int) ≤ (X : Int) + (N : Int) := ⟨by omega, by omega⟩
            have htn : ((X : Int) + (N : Int)).toNat = X + N := by omega
            have hxn : X ≤ X + N := by omega
            have hsub : X + N - X = N := by omega
            have HSR : Hid (∀ (v : World), Below w.heap.size w v → SrcB v (some ⟨b, off + X, none⟩) N (fun i => f (X + i))) := fun v hv => SrcB.cut (m := n) (.inr ⟨b, off, rfl, HF.out.below hv HF.out.1⟩) hle
            have HRR : Hid (∀ i, i < N → 0 ≤ (fun i => f (X + i)) i ∧ (fun i => f (X + i)) i ≤ 255) := fun i hi => HR.out (X + i) (by omega)
            by_cases hcx : c = X
            · have hN0 : N = 0 := by omega
              have hU1 : (unp (fun i => f (X + i)) N).1 = 1 := by rw [hN0]; rfl
              have hU : unp (fun i => f (X + i)) N = (1, zT) := by rw [hN0]; rfl
              have HS : Hid (spl f n 40 0 = _) := spl_stop HSP.out (spl_code hlt hG HNS.out hU1 (by decide))
              have CU := specUnpack_any (some ⟨b, off, none⟩) N (c - X) (fun i => f (X + i)) wr (by omega) (by omega) (by unfold maxLen; omega) (.inl hN0) HRR.out
              rw [hU] at CU
              simp only [uv, mv, zT] at CU
              have hcc : c - X = 0 := by omega
              have hb2 : (X : Int) + (N : Int) ≤ (X : Int) := by omega
              clear HSP hG HSR HRR hU hU1 HNS
              subst hN0
              subst hcx
              go_wp2_with fail
              refine CG.mono ?_
              rintro e w' ⟨rfl, rfl⟩
              rw [hcc] at CU
              go_wp2_with fail
              refine CU.mono ?_
              rintro e w2 ⟨rfl, hb⟩
              have O2 := ownB_below O hb
              have B2 := hB.trans (hb.mono hB.size)
              clear O hB hb CU CG
              go_wp2_with fail
              exact bodyPost_ret (v := .tuple #[.slice aw A.length cw, .int .i64 x, .int .i64 1]) (by simp [results, Try.results24, go_sem]) rfl ⟨_, by rw [HS.out], by rw [HS.out]; exact (World.ownsRow.alloc O2 _), B2.alloc B2.size _⟩
            · have hce : (c = X) = False := by simp; exact hcx
              have CU := specUnpack_any (some ⟨b, off + X, none⟩) N (c - X) (fun i => f (X + i)) wr (by omega) (by omega) (by unfold maxLen; omega) (HSR.out wr hB) HRR.out
              obtain ⟨q, x0, x1, x2, x3, x4, x5, x6, x7, hU⟩ : ∃ (q : Int) (x0 : Int) (x1 : Int) (x2 : Int) (x3 : Int) (x4 : Int) (x5 : Int) (x6 : Int) (x7 : ByteArray), unp (fun i => f (X + i)) N = (q, (x0, x1, x2, x3, x4, x5, x6, x7)) := ⟨_, _, _, _, _, _, _, _, _, rfl⟩
              rw [hU] at CU
              simp only [uv, mv] at CU
              by_cases hq : q = 0
              · subst hq
                have HGO := spl_app HSP.out (spl_go hlt hG HNS.out hU)
                have HG1 : Hid (spl f n 40 0 = ((A ++ [mT x0 x1 x2 x3 x4 x5 x6 x7]) ++ (spl f n r (X + N)).1, (spl f n r (X + N)).2)) := HGO
                clear HSP hG HSR HRR hU HNS HGO
                go_wp2_with fail
                refine CG.mono ?_
                rintro e w' ⟨rfl, rfl⟩
                go_wp2_with fail
                refine CU.mono ?_
                rintro e w2 ⟨rfl, hb⟩
                have O2 := ownB_below O hb
                have B2 := hB.trans (hb.mono hB.size)
                clear O hB hb CU CG
                have A2 := Below.nw w2 (.cells #[.int .i64 x0, .int .i64 x1, .int .i64 x2, .int .i64 x3, .int .i64 x4, .int .i64 x5, .int .i64 x6, .string x7] 32)
                have O3 := ownB_below O2 A2
                have B3 := B2.trans (A2.mono B2.size)
                have P3 := Box8.new w2 x0 x1 x2 x3 x4 x5 x6 x7 32
                clear O2 A2
                go_upto_region 14 with fail
                generalize w2.alloc (.cells #[.int .i64 x0, .int .i64 x1, .int .i64 x2, .int .i64 x3, .int .i64 x4, .int .i64 x5, .int .i64 x6, .string x7] 32) = w3 at *
                obtain ⟨p0, p1, p2, p3, p4, p5, p6, p7, p8⟩ := P3
                have hsz : w.heap.size ≤ (w3.alloc (.cells #[.int .i64 x0, .int .i64 x1, .int .i64 x2, .int .i64 x3, .int .i64 x4, .int .i64 x5, .int .i64 x6, .string x7] 32)).heap.size := by have := B3.size; simp; omega
                have A4 := Below.nw w3 (.cells #[.int .i64 x0, .int .i64 x1, .int .i64 x2, .int .i64 x3, .int .i64 x4, .int .i64 x5, .int .i64 x6, .string x7] 32)
                go_wp2_with (at_builtin; refine wpList_append_own _ rfl _ _ 45 rfl w.heap.size 32 i0 (.agg #[.int .i64 0, .int .i64 0, .int .i64 0, .int .i64 0, .int .i64 0, .int .i64 0, .int .i64 0, .string ⟨#[]⟩]) 8 72 Try.underlying45 hi hz0 hz1 hz2 rfl (by decide) _ _ _ rfl (World.ownsRow.alloc O3 _) ⟨w3.heap.size, 0, none⟩ 1 1 [.int .i64 x0, .int .i64 x1, .int .i64 x2, .int .i64 x3, .int .i64 x4, .int .i64 x5, .int .i64 x6, .string x7] rfl rfl (fun j u hj => eight_at w3 _ _ _ _ _ _ _ _ 32 j u hj) (eight_one _ _ _ _ _ _ _ _) (by unfold maxLen; omega) (by omega) hsz ?_; intro v' wn hown' hgrow _)
                have G := grownB_below (World.ownsRow.alloc O3 _) hgrow hsz
                have B4 := (B3.trans (A4.mono B3.size)).trans (G.mono (Nat.le_refl _))
                have R4 : wn.ownsRow w.heap.size 32 8 v' (A ++ [mT x0 x1 x2 x3 x4 x5 x6 x7]).length (mvs (A ++ [mT x0 x1 x2 x3 x4 x5 x6 x7])) := by rw [mvs_add, List.length_append]; exact hown'
                clear hown' hgrow G A4 hsz O3 B3 p0 p1 p2 p3 p4 p5 p6 p7 p8
                (try go_wp2_with fail)
                go_roundw
                case rel => exact ⟨A ++ [mT x0 x1 x2 x3 x4 x5 x6 x7], X + N, r, by simp, hle, by rw [List.length_append]; simp; omega, HG1.out, R4, B4⟩
                case measure => simp [intOf]; omega
              · have HS : Hid (spl f n 40 0 = _) := spl_stop HSP.out (spl_code (q := q) hlt hG HNS.out (by rw [hU]) hq)
                have hqb : (q != 0) = true := by simp; exact hq
                clear HSP hG HSR HRR hU HNS
                go_wp2_with fail
                refine CG.mono ?_
                rintro e w' ⟨rfl, rfl⟩
                go_wp2_with fail
                refine CU.mono ?_
                rintro e w2 ⟨rfl, hb⟩
                have O2 := ownB_below O hb
                have B2 := hB.trans (hb.mono hB.size)
                clear O hB hb CU CG
                go_wp2_with fail
                exact bodyPost_ret (v := .tuple #[.slice aw A.length cw, .int .i64 x, .int .i64 q]) (by simp [results, Try.results24, go_sem]) rfl ⟨_, by rw [HS.out], by rw [HS.out]; exact (World.ownsRow.alloc O2 _), B2.alloc B2.size _⟩
    · have HS : Hid (spl f n 40 0 = _) := spl_stop HSP.out (spl_end hlt r)
      have hli : ¬ (x : Int) < (n : Int) := by omega
      clear HSP
      go_wp2_with fail
      exact bodyPost_ret (v := .tuple #[u5, .int .i64 x, .int .i64 0]) (by simp [results, Try.results24, go_sem]) rfl ⟨_, by rw [HS.out], by rw [HS.out]; exact O, hB⟩
theorem specSplitMsgs_any (a : Option Addr) (n c : Nat) (f : Nat → Int) (w : World) (hn : n ≤ 1048576) (hc : n ≤ c) (hcm : c ≤ maxLen) (hs : SrcB w a n f) (hr : ∀ i, i < n → 0 ≤ f i ∧ f i ≤ 255) :
    Calls Try.prog 24 #[.slice a n c] w fun e w' => ∃ v : Value, e = .returned (.tuple #[v, .int .i64 (spl f n 40 0).2.1, .int .i64 (spl f n 40 0).2.2]) ∧ w'.ownsRow w.heap.size 32 8 v (spl f n 40 0).1.length (mvs (spl f n 40 0).1) ∧ Below w.heap.size w w' := by
  rcases hs with rfl | ⟨b, off, rfl, hf⟩
  · exact specSplitMsgs_zero a c f w
  · exact specSplitMsgs_some b off n c f w hn hc hcm hf hr
end Go.Proofs.Ytnhkpbbkappclaa
