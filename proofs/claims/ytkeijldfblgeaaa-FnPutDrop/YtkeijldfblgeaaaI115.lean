/- What PeerPut tells; its contract in the program. -/
import Derived.Test.YtkeijldfblgeaaaI113
import Derived.WalkKit
import Derived.WalkSpells
import Derived.WalkLawsBesides
import Derived.Deep.RegionHeld
namespace Go.Proofs.Ytkeijldfblgeaaa
open Go.RowKit
set_option linter.unusedVariables false
def skB (M : Nat → PT) (x : Int) (k : Nat) : Bool := ((lkP M k x).getD zP).2.2.2.2
theorem skB_yes {M : Nat → PT} {x : Int} {k : Nat} (h : (M k).1 = x) : skB M x (k + 1) = (M k).2.2.2.2 := by rw [skB, lkP, if_pos h]; rfl
theorem skB_no {M : Nat → PT} {x : Int} {k : Nat} (h : (M k).1 ≠ x) : skB M x (k + 1) = skB M x k := by rw [skB, lkP, if_neg h]; rfl
def ptA (M : Nat → PT) (x : Int) (k : Nat) : Bool := (lst M k).any fun q => decide (x ≤ q.1)
def pt1 (x : Int) (L : List PT) : List PT := L.filter fun q => decide (q.1 < x)
def pt2 (x : Int) (L : List PT) : List PT := L.filter fun q => decide (x < q.1)
def poN (M : Nat → PT) (p : PT) (k : Nat) : List PT := pt1 p.1 (lst M k) ++ (if ptA M p.1 k then [p] else []) ++ pt2 p.1 (lst M k)
def pinL (L : List PT) (p : PT) : List PT := pt1 p.1 L ++ [p] ++ pt2 p.1 L
theorem ptA_succ (M : Nat → PT) (x : Int) (k : Nat) : ptA M x (k + 1) = (ptA M x k || decide (x ≤ (M k).1)) := by rw [ptA, lst_succ, List.any_append]; simp [ptA]
theorem pt1_succ (M : Nat → PT) (x : Int) (k : Nat) : pt1 x (lst M (k + 1)) = if (M k).1 < x then pt1 x (lst M k) ++ [M k] else pt1 x (lst M k) := by
  rw [pt1, lst_succ, List.filter_append]
  by_cases h : (M k).1 < x <;> simp [pt1, h]
theorem pt2_succ (M : Nat → PT) (x : Int) (k : Nat) : pt2 x (lst M (k + 1)) = if x < (M k).1 then pt2 x (lst M k) ++ [M k] else pt2 x (lst M k) := by
  rw [pt2, lst_succ, List.filter_append]
  by_cases h : x < (M k).1 <;> simp [pt2, h]
theorem ptA_low {M : Nat → PT} {n : Nat} (h : oks M n = true) {x : Int} {k : Nat} (hk : k < n) (hx : (M k).1 ≤ x) : ptA M x k = false := by
  rw [ptA, List.any_eq_false]
  intro q hq
  obtain ⟨j, hj, rfl⟩ := lst_mem.1 hq
  have := oks_asc h hj hk
  simp
  omega
theorem pt2_none {M : Nat → PT} {x : Int} {k : Nat} (h : ptA M x k = false) : pt2 x (lst M k) = [] := by
  rw [ptA, List.any_eq_false] at h
  rw [pt2, List.filter_eq_nil_iff]
  intro q hq
  have := h q hq
  simp at this ⊢
  omega
theorem poN_a {M : Nat → PT} {n : Nat} (h : oks M n = true) {p : PT} {k : Nat} (hk : k < n) (hx : (M k).1 < p.1) : poN M p (k + 1) = poN M p k ++ [M k] ∧ ptA M p.1 (k + 1) = false ∧ ptA M p.1 k = false := by
  have h0 := ptA_low h hk (Int.le_of_lt hx)
  have h1 : ptA M p.1 (k + 1) = false := by rw [ptA_succ, h0]; simp; omega
  refine ⟨?_, h1, h0⟩
  rw [poN, poN, h0, h1, pt2_none h0, pt2_none h1, pt1_succ, if_pos hx]
  simp
theorem poN_b {M : Nat → PT} {n : Nat} (h : oks M n = true) {p : PT} {k : Nat} (hk : k < n) (hx : (M k).1 = p.1) : poN M p (k + 1) = poN M p k ++ [p] ∧ ptA M p.1 (k + 1) = true ∧ ptA M p.1 k = false := by
  have h0 := ptA_low h hk (Int.le_of_eq hx)
  have h1 : ptA M p.1 (k + 1) = true := by rw [ptA_succ, h0, hx]; simp
  refine ⟨?_, h1, h0⟩
  rw [poN, poN, h0, h1, pt2_none h0, pt1_succ, pt2_succ, pt2_none h0, hx]
  simp
theorem poN_c {M : Nat → PT} {p : PT} {k : Nat} (hx : p.1 < (M k).1) (h0 : ptA M p.1 k = true) : poN M p (k + 1) = poN M p k ++ [M k] ∧ ptA M p.1 (k + 1) = true := by
  have h1 : ptA M p.1 (k + 1) = true := by rw [ptA_succ, h0]; simp
  refine ⟨?_, h1⟩
  have h2 : ¬ (M k).1 < p.1 := by omega
  rw [poN, poN, h0, h1, pt1_succ, pt2_succ]
  simp [hx, h2]
theorem poN_d {M : Nat → PT} {p : PT} {k : Nat} (hx : p.1 < (M k).1) (h0 : ptA M p.1 k = false) : poN M p (k + 1) = poN M p k ++ [p] ++ [M k] ∧ ptA M p.1 (k + 1) = true := by
  have h1 : ptA M p.1 (k + 1) = true := by rw [ptA_succ, h0]; simp; omega
  refine ⟨?_, h1⟩
  have h2 : ¬ (M k).1 < p.1 := by omega
  rw [poN, poN, h0, h1, pt1_succ, pt2_succ, pt2_none h0]
  simp [hx, h2]
theorem poN_t {M : Nat → PT} {p : PT} {n : Nat} (h : ptA M p.1 n = true) : pinL (lst M n) p = poN M p n := by rw [pinL, poN, h]; simp
theorem poN_f {M : Nat → PT} {p : PT} {n : Nat} (h : ptA M p.1 n = false) : pinL (lst M n) p = poN M p n ++ [p] := by rw [pinL, poN, h, pt2_none h]; simp
theorem filt_len {M : Nat → PT} {x : Int} : ∀ k, (pt1 x (lst M k)).length + (pt2 x (lst M k)).length ≤ k
  | 0 => by simp [lst, pt1, pt2]
  | k + 1 => by
    have := filt_len (M := M) (x := x) k
    rw [pt1_succ, pt2_succ]
    by_cases h1 : (M k).1 < x
    · rw [if_pos h1, if_neg (by omega)]; simp; omega
    · rw [if_neg h1]
      by_cases h2 : x < (M k).1
      · rw [if_pos h2]; simp; omega
      · rw [if_neg h2]; omega
theorem poN_len (M : Nat → PT) (p : PT) (k : Nat) : (poN M p k).length ≤ k + 1 := by
  have := filt_len (M := M) (x := p.1) k
  rw [poN]
  split <;> simp <;> omega
theorem pinL_len (M : Nat → PT) (p : PT) (k : Nat) : (pinL (lst M k) p).length ≤ k + 1 := by
  have := filt_len (M := M) (x := p.1) k
  rw [pinL]
  simp
  omega
theorem FLP.put {F : Int → Option PT} {L : List PT} (h : FLP F L) (p : PT) : FLP (fun y => if y = p.1 then some p else F y) (pinL L p) := by
  refine ⟨?_, fun y q => ?_⟩
  · rw [pinL, List.append_assoc, List.pairwise_append]
    refine ⟨h.1.filter _, ?_, fun a ha b hb => ?_⟩
    · rw [List.singleton_append, List.pairwise_cons]
      refine ⟨fun a ha => ?_, h.1.filter _⟩
      simp [pt2] at ha
      exact ha.2
    · simp [pt1] at ha
      simp [pt2] at hb
      rcases hb with rfl | hb
      · exact ha.2
      · omega
  · show (if y = p.1 then some p else F y) = some q ↔ _
    simp only [pinL, pt1, pt2, List.mem_append, List.mem_filter, List.mem_singleton, decide_eq_true_eq]
    by_cases e : y = p.1
    · rw [if_pos e]
      constructor
      · intro hh
        injection hh with hh
        subst hh
        exact ⟨.inl (.inr rfl), e.symm⟩
      · rintro ⟨(⟨_, h2⟩ | rfl) | ⟨_, h2⟩, h3⟩
        · omega
        · rfl
        · omega
    · rw [if_neg e, h.2 y q]
      constructor
      · rintro ⟨h1, h2⟩
        rcases Int.lt_trichotomy q.1 p.1 with q1 | q1 | q1
        · exact ⟨.inl (.inl ⟨h1, q1⟩), h2⟩
        · exact absurd (h2.symm.trans q1) e
        · exact ⟨.inr ⟨h1, q1⟩, h2⟩
      · rintro ⟨(⟨h1, _⟩ | rfl) | ⟨h1, _⟩, h3⟩
        · exact ⟨h1, h3⟩
        · exact absurd h3.symm e
        · exact ⟨h1, h3⟩
def ptP (M : Nat → PT) (n : Nat) (x lo hi y : Int) : Bool := oks M n && nodB x && okI lo hi && okT y
def ptL (M : Nat → PT) (n : Nat) (x lo hi y : Int) : List PT := if ptP M n x lo hi y = true then pinL (lst M n) (x, lo, hi, y, skB M x n) else []
def ptC (M : Nat → PT) (n : Nat) (x lo hi y : Int) : Int := if ptP M n x lo hi y = true then 0 else 1
theorem ptL_t {M : Nat → PT} {n : Nat} {x lo hi y : Int} (h : ptP M n x lo hi y = true) : ptL M n x lo hi y = pinL (lst M n) (x, lo, hi, y, skB M x n) ∧ ptC M n x lo hi y = 0 := ⟨if_pos h, if_pos h⟩
theorem ptL_f {M : Nat → PT} {n : Nat} {x lo hi y : Int} (h : ptP M n x lo hi y = false) : ptL M n x lo hi y = [] ∧ ptC M n x lo hi y = 1 := ⟨if_neg (by rw [h]; simp), if_neg (by rw [h]; simp)⟩
theorem PeerPut_len (M : Nat → PT) (n : Nat) (x lo hi y : Int) : (ptL M n x lo hi y).length ≤ 9 := by
  unfold ptL
  split
  · next h =>
    unfold ptP at h
    simp only [Bool.and_eq_true] at h
    have := oks_le h.1.1.1
    have := pinL_len M (x, lo, hi, y, skB M x n) n
    omega
  · simp
theorem field3 (a b c d : Int) (s : Bool) (w : World) : (Instr.field 51 (.agg #[.int .i64 a, .int .i64 b, .int .i64 c, .int .i64 d, .bool s]) 3).run Try.prog w = .ok (.bool s) w := by kernel_rfl
set_option maxRecDepth 100000 in
set_option maxHeartbeats 4000000 in
theorem implPeerPut_w (a : Option Addr) (n c : Nat) (M : Nat → PT) (x lo hi y : Int) (w : World) (hm : n ≤ maxLen) (hs : SrcC w a (n * 5) (MFPeer M)) (wx : (Lit.int .i64 x).wf = true) :
    Calls Try.prog 8 #[.slice a n c, .int .i64 x, .agg #[.int .i64 lo, .int .i64 hi], .int .i64 y] w fun e w' => ∃ v, e = .returned (.tuple #[v, .int .i64 (ptC M n x lo hi y)]) ∧ w'.ownsRow w.heap.size 51 5 v (ptL M n x lo hi y).length (prow (ptL M n x lo hi y)) ∧ Below w.heap.size w w' := by
  have B0 := Below.nw w (.cells #[.int .i64 lo, .int .i64 hi] 38)
  have P0 := Bx2.new w (.int .i64 lo) (.int .i64 hi) 38
  have HS := hs.below B0
  clear hs
  cases h1 : oks M n
  · have hf : ptP M n x lo hi y = false := by unfold ptP; rw [h1]; rfl
    rw [(ptL_f hf).1, (ptL_f hf).2]
    have C1 := rosterOf_bad a n c M _ hm HS h1
    have hlk := fun w' => look_nilP w' x false
    simp only [Bool.false_eq_true, if_false, pv, zP] at hlk
    have hfd := fun w' => field3 0 0 0 0 false w'
    clear HS hf
    go_enter Try.func8, Try.ntmps8
    go_upto_region 1 with fail
    generalize w.alloc (.cells #[.int .i64 lo, .int .i64 hi] 38) = w0 at *
    go_wp2_with fail
    refine C1.mono ?_
    rintro e w1 ⟨rfl, hb⟩
    replace B0 := B0.trans (hb.mono B0.size)
    obtain ⟨p0, p1, p2, p3, p4⟩ := P0.below hb
    have A1 := B0.alloc B0.size (.cells #[.int .i64 x, .int .i64 lo, .int .i64 hi, .int .i64 y, .bool false] 51)
    clear hb C1 P0
    go_wp2_with fail
    exact bodyPost_ret (v := (.tuple #[.slice none 0 0, .int .i64 1])) (by simp (maxDischargeDepth := 6) [results, Try.results8, go_sem, *]) rfl ⟨_, rfl, nil_peer _ _, A1⟩
  have C1 := rosterOf_ok a n c M _ hm HS h1
  have HF : Hid (FLP (lkP M n) (lst M n)) := FLP.ofLst h1
  have hn8 := oks_le h1
  have HSK : Hid (((lkP M n x).getD zP).2.2.2.2 = skB M x n) := rfl
  have hsz0 : w.heap.size ≤ (w.alloc (.cells #[.int .i64 lo, .int .i64 hi] 38)).heap.size := by simp
  clear HS
  cases h2 : pOk (x, lo, hi, y, skB M x n)
  · have hf : ptP M n x lo hi y = false := by
      unfold ptP
      unfold pOk at h2
      rw [Bool.and_assoc, Bool.and_assoc, ← Bool.and_assoc (nodB x)]
      show (oks M n && (nodB x && okI lo hi && okT y)) = false
      rw [show (nodB x && okI lo hi && okT y) = false from h2]
      simp
    rw [(ptL_f hf).1, (ptL_f hf).2]
    clear hf
    go_enter Try.func8, Try.ntmps8
    go_upto_region 1 with fail
    generalize w.alloc (.cells #[.int .i64 lo, .int .i64 hi] 38) = w0 at *
    go_wp2_with fail
    refine C1.mono ?_
    rintro e w1 ⟨b, rfl, hbb, MP, hb⟩
    replace B0 := B0.trans (hb.mono B0.size)
    obtain ⟨p0, p1, p2, p3, p4⟩ := P0.below hb
    have hlk := MP.look wx
    generalize hq : (lkP M n x).getD zP = q at *
    obtain ⟨q0, q1, q2, q3, q4⟩ := q
    simp only [pv] at hlk
    have hfd := fun w' => field3 q0 q1 q2 q3 q4 w'
    have HQ : Hid (q4 = skB M x n) := HSK.out
    have A1 := B0.alloc B0.size (.cells #[.int .i64 x, .int .i64 lo, .int .i64 hi, .int .i64 y, .bool q4] 51)
    rw [← HQ.out] at h2
    clear hb C1 P0 MP hq HSK
    go_wp2_with fail
    refine (peerOk_any _ _ _ _ _ _).mono ?_
    rintro e w2 ⟨rfl, hb2⟩
    rw [h2]
    replace A1 := A1.trans (hb2.mono A1.size)
    clear hb2 hlk hfd
    go_wp2_with fail
    exact bodyPost_ret (v := (.tuple #[.slice none 0 0, .int .i64 1])) (by simp (maxDischargeDepth := 6) [results, Try.results8, go_sem, *]) rfl ⟨_, rfl, nil_peer _ _, A1⟩
  · have hf : ptP M n x lo hi y = true := by
      unfold ptP
      unfold pOk at h2
      rw [Bool.and_assoc, Bool.and_assoc, ← Bool.and_assoc (nodB x)]
      show (oks M n && (nodB x && okI lo hi && okT y)) = true
      rw [show (nodB x && okI lo hi && okT y) = true from h2, h1]
      rfl
    rw [(ptL_t hf).1, (ptL_t hf).2]
    clear hf
    have hln : (pinL (lst M n) (x, lo, hi, y, skB M x n)).length ≤ 9 := by have := pinL_len M (x, lo, hi, y, skB M x n) n; omega
    have HFP : Hid (FLP (fun z => if z = x then some (x, lo, hi, y, skB M x n) else lkP M n z) (pinL (lst M n) (x, lo, hi, y, skB M x n))) := HF.out.put (x, lo, hi, y, skB M x n)
    go_enter Try.func8, Try.ntmps8
    go_upto_region 1 with fail
    generalize w.alloc (.cells #[.int .i64 lo, .int .i64 hi] 38) = w0 at *
    go_wp2_with fail
    refine C1.mono ?_
    rintro e w1 ⟨b, rfl, hbb, MP, hb⟩
    have hbw : w.heap.size ≤ b := by omega
    replace B0 := B0.trans (hb.mono B0.size)
    obtain ⟨p0, p1, p2, p3, p4⟩ := P0.below hb
    have hlk := MP.look wx
    generalize hq : (lkP M n x).getD zP = q at *
    obtain ⟨q0, q1, q2, q3, q4⟩ := q
    simp only [pv] at hlk
    have hfd := fun w' => field3 q0 q1 q2 q3 q4 w'
    have HQ : q4 = skB M x n := HSK.out
    rw [← HQ] at h2 HFP hln
    have HQ' : Hid (q4 = skB M x n) := HQ
    have A1 := Below.nw w1 (.cells #[.int .i64 x, .int .i64 lo, .int .i64 hi, .int .i64 y, .bool q4] 51)
    have KB := Bx5.new w1 (.int .i64 x) (.int .i64 lo) (.int .i64 hi) (.int .i64 y) (.bool q4) 51
    replace MP := MP.below A1
    replace B0 := B0.trans (A1.mono B0.size)
    clear hb C1 P0 hq HSK HQ
    go_upto_region 3 with fail
    clear hlk hfd A1 p0 p1 p2 p3 p4
    generalize hbk : w1.heap.size = bk at *
    generalize w1.alloc (.cells #[.int .i64 x, .int .i64 lo, .int .i64 hi, .int .i64 y, .bool q4] 51) = w2 at *
    obtain ⟨k9, k0, k1, k2, k3, k4, f0, f1, f2, f3, f4⟩ := id KB
    go_wp2_with fail
    refine (peerOk_any _ _ _ _ _ _).mono ?_
    rintro e w3 ⟨rfl, hb3⟩
    rw [h2]
    replace B0 := B0.trans (hb3.mono B0.size)
    clear k9 k0 k1 k2 k3 k4 f0 f1 f2 f3 f4
    obtain ⟨k9, k0, k1, k2, k3, k4, f0, f1, f2, f3, f4⟩ := KB.below hb3
    replace MP := MP.below hb3
    have hB3 := B0.size
    clear hb3 KB
    obtain ⟨w4, hrun, MP4, hg4⟩ := MP.put wx (by unfold maxLen; omega) (x, lo, hi, y, q4)
    simp only [pv] at hrun
    have B4 := B0.trans ((But.ofGrownK hg4).below hbw hB3)
    clear MP hg4
    go_upto_region 6 with fail
    clear hrun k9 k0 k1 k2 k3 k4 f0 f1 f2 f3 f4
    go_wp2_with fail
    refine (list_any b (n + 1) _ _ _ MP4 HFP.out hln).mono ?_
    rintro e w5 ⟨v, rfl, O5, hb5⟩
    replace hb5 := B4.trans (hb5.mono B4.size)
    rw [HQ'.out] at O5
    obtain ⟨av, cv, rfl, _, _, _⟩ := ownF_src O5
    have hbs4 := B4.size
    clear MP4
    go_wp2_with fail
    exact bodyPost_ret (v := (.tuple #[.slice av (pinL (lst M n) (x, lo, hi, y, skB M x n)).length cv, .int .i64 0])) (by simp (maxDischargeDepth := 6) [results, Try.results8, go_sem, *]) rfl ⟨_, rfl, own_base O5 hbs4, hb5⟩
theorem implPeerPut_any (a : Option Addr) (n c : Nat) (M : Nat → PT) (x lo hi y : Int) (w : World) (hm : n ≤ maxLen) (hs : SrcC w a (n * 5) (MFPeer M)) (wx : (Lit.int .i64 x).wf = true) (wl : (Lit.int .i64 lo).wf = true) (wh : (Lit.int .i64 hi).wf = true) (wy : (Lit.int .i64 y).wf = true) :
    Calls Try.prog 8 #[.slice a n c, .int .i64 x, .agg #[.int .i64 lo, .int .i64 hi], .int .i64 y] w fun e w' => ∃ v, e = .returned (.tuple #[v, .int .i64 (ptC M n x lo hi y)]) ∧ w'.ownsRow w.heap.size 51 5 v (ptL M n x lo hi y).length (prow (ptL M n x lo hi y)) ∧ Below w.heap.size w w' := implPeerPut_w a n c M x lo hi y w hm hs wx
end Go.Proofs.Ytkeijldfblgeaaa
