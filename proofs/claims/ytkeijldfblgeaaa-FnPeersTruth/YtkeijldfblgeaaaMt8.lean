/- The walk of FnPeersTruth. -/
import Derived.Test.YtkeijldfblgeaaaMt7
import Derived.Test.YtkeijldfblgeaaaMt3
import Derived.Deep.RegionHeld3
import Derived.Deep.DeepCutAuto
import Derived.WalkKit
import Derived.WalkSpells
import Derived.WalkLawsBesides
import Derived.Deep.RegionHeld
namespace Go.Proofs.Ytkeijldfblgeaaa
open Go.RowKit
set_option linter.unusedVariables false
theorem lo_le10 {T z : Int} (h1 : 0 ≤ T) (h2 : T ≤ 1000000000000) (z0 : 0 ≤ z) (z1 : z ≤ 255) : IntKind.i64.wrap (T - z.tmod 20) ≤ T := by
  have e : z.tmod 20 = z % 20 := Int.tmod_eq_emod_of_nonneg z0
  rw [e, Go.IntWalk.i64_in _ ⟨by omega, by omega⟩]; omega
theorem hi_ge10 {T z : Int} (h1 : 0 ≤ T) (h2 : T ≤ 1000000000000) (z0 : 0 ≤ z) (z1 : z ≤ 255) : T ≤ IntKind.i64.wrap (T + z.tmod 20) := by
  have e : z.tmod 20 = z % 20 := Int.tmod_eq_emod_of_nonneg z0
  rw [e, Go.IntWalk.i64_in _ ⟨by omega, by omega⟩]; omega
theorem first_at10 {z : Int} {l : Nat} (hl : ¬ l = 0) (z0 : 0 ≤ z) : ∃ i : Nat, z.tmod (l : Int) = (i : Int) ∧ i < l ∧ (i : Int) < (l : Int) ∧ ¬ (l : Int) = 0 := by
  obtain ⟨i, h1, h2⟩ := tmod_in6 z0 (show 1 ≤ l by omega)
  exact ⟨i, h1, h2, by omega, by omega⟩
theorem at_i (a : Option Addr) (n c : Nat) (i : Int) (B : Nat) (w : World) (hn : n ≤ 1048576) (h0 : 0 ≤ i) (h1 : i ≤ 1000) (hcode : CodeB w B a n) :
    Calls Try.prog 10 #[.slice a n c, .int .i64 i] w fun e w' => ∃ x : Int, e = .returned (.int .i64 x) ∧ 0 ≤ x ∧ x ≤ 255 ∧ w = w' := by
  obtain ⟨k, rfl⟩ := Int.eq_ofNat_of_zero_le h0
  exact at_any a n c k B w hn (by omega) hcode
theorem implHolds_v10 (lo hi t : Int) (w : World) (h : holdsI lo hi t = true) :
    Calls Try.prog 14 #[.agg #[.int .i64 lo, .int .i64 hi], .int .i64 t] w fun e w' => e = .returned (.bool true) ∧ Below w.heap.size w w' := by
  have := implHolds_any lo hi t w
  rw [h] at this
  exact this
theorem len_beq10 {l : Nat} (hl : ¬ l = 0) : ((l : Int) == 0) = false := by rw [beq_eq_false_iff_ne]; omega
theorem max10 {m : Nat} (h : m ≤ 1000) : m ≤ maxLen := by unfold maxLen; omega
theorem wf_k3 {k : Nat} (h : k < 8) : (Lit.int .i64 (((k : Int) * 3).tmod 8)).wf = true := by
  rw [Int.tmod_eq_emod_of_nonneg (by omega)]
  simp only [Lit.wf, Bool.and_eq_true, decide_eq_true_eq]
  exact ⟨by show (-9223372036854775808 : Int) ≤ _; omega, by show _ ≤ (9223372036854775807 : Int); omega⟩
theorem own_slice {w : World} {base : Nat} {T : TypeId} {s n : Nat} {v : Value} {xs : List Value} (h : w.ownsRow base T s v n xs) : ∃ a c, v = .slice a n c := by
  rcases h.2 with ⟨rfl, h0⟩ | ⟨g, cap, cur, rfl, _⟩
  · exact ⟨none, 0, by rw [h0]⟩
  · exact ⟨_, _, rfl⟩
def Ls (w : World) (kT base : Nat) (tl cl : Int) (C : List CT) (v0 v1 : Value) (wr : World) : Prop := Two wr base C v0 v1 ∧ Bx2 wr kT (.int .i64 tl) (.int .i64 cl) ∧ Below w.heap.size w wr
theorem Ls.below {w : World} {kT base : Nat} {tl cl : Int} {C : List CT} {v0 v1 : Value} {wr wr' : World} (h : Ls w kT base tl cl C v0 v1 wr) (hb : Below wr.heap.size wr wr') : Ls w kT base tl cl C v0 v1 wr' := ⟨h.1.below hb, h.2.1.below hb, h.2.2.trans (hb.mono h.2.2.size)⟩
theorem Ls.drew {w : World} {kT base : Nat} {tl cl : Int} {C : List CT} {v0 v1 : Value} {wr : World} (h : Ls w kT base tl cl C v0 v1 wr) : Ls w kT base tl cl C v0 v1 wr.drew := ⟨h.1, h.2.1, Below.drew h.2.2⟩
/- The state of the walk: the oscillator's box, the last mark's, the marks, the sources so far. -/
def Pt (w : World) (kO kT b off l : Nat) (x y t u tl cl : Int) (f : Nat → Int × Int) (ap : Option Addr) (K : List PT) (wr : World) : Prop :=
  Box4 wr kO x y t u ∧ Bx2 wr kT (.int .i64 tl) (.int .i64 cl) ∧ Prs wr b off l f ∧ SrcC wr ap (K.length * 5) (MFPeer (gP K)) ∧ Below w.heap.size w wr
theorem Pt.below {w : World} {kO kT b off l : Nat} {x y t u tl cl : Int} {f : Nat → Int × Int} {ap : Option Addr} {K : List PT} {wr wr' : World} (h : Pt w kO kT b off l x y t u tl cl f ap K wr) (hb : Below wr.heap.size wr wr') : Pt w kO kT b off l x y t u tl cl f ap K wr' := by
  obtain ⟨h1, h2, h3, h4, h5⟩ := h
  exact ⟨h1.below hb, h2.below hb, h3.below hb h3.1, h4.below hb, h5.trans (hb.mono h5.size)⟩
theorem Pt.drew {w : World} {kO kT b off l : Nat} {x y t u tl cl : Int} {f : Nat → Int × Int} {ap : Option Addr} {K : List PT} {wr : World} (h : Pt w kO kT b off l x y t u tl cl f ap K wr) : Pt w kO kT b off l x y t u tl cl f ap K wr.drew := by
  obtain ⟨h1, h2, h3, h4, h5⟩ := h
  exact ⟨h1, h2, h3, h4, Below.drew h5⟩
set_option maxRecDepth 100000 in
set_option maxHeartbeats 16000000 in
theorem walkPeersTruth (a0 : Option Addr) (n0 c0 : Nat) (w : World) (hcode : CodeB w w.heap.size a0 n0) :
    Calls Try.prog 3 #[.slice a0 n0 c0] w fun e w' => e = .returned (.bool true) ∧ Below w.heap.size w w' := by
  by_cases hbig : (1048576 : Int) < (n0 : Int)
  · go_enter Try.func3, Try.ntmps3
    go_wp2_with (go_at_call 5; refine (big_any _ _ _ _).mono ?_; rintro e w' ⟨rfl, rfl⟩)
    go_ret
    exact ⟨rfl, Below.refl _ _⟩
  have hd : decide ((1048576 : Int) < (n0 : Int)) = false := by simp; omega
  have hn0 : n0 ≤ 1048576 := by omega
  have HC : Hid (CodeB w w.heap.size a0 n0) := hcode
  clear hcode hbig
  go_enter Try.func3, Try.ntmps3
  go_wp2_with (go_at_call 5; refine (big_any _ _ _ _).mono ?_; rintro e w' ⟨rfl, rfl⟩)
  refine (DrawOscRun_any a0 n0 c0 _ hn0 HC.out).mono ?_
  rintro e w1 ⟨x, y, t, u, vs, LS, rfl, O1, hLS, B1⟩
  obtain ⟨a, cp, rfl, hmc, hcm, hsrc⟩ := own_src O1
  have SR : Hid (Src w1 a LS.length fun i => LS.getD i (0, 0)) := hsrc
  clear O1 hsrc
  generalize (fun i => LS.getD i (0, 0)) = fs at *
  generalize LS.length = m at *
  have hmm : m ≤ maxLen := max10 hLS
  have A1 := Below.alc w1 (.cells #[.int .i64 x, .int .i64 y, .int .i64 t, .int .i64 u] 27)
  have O := Box4.new w1 x y t u 27
  have B := B1.trans (A1.mono B1.size)
  have SR' : Hid (Src (w1.alloc (.cells #[.int .i64 x, .int .i64 y, .int .i64 t, .int .i64 u] 27)) a m fs) := SR.out.below A1
  have CS := fun (w' : World) (h : Src w' a m fs) => specOscRun_any x y t u a m cp fs w' hmm h
  have hLen := runL_len x y t u fs m
  have HR : Hid ((runL x y t u fs m).length ≠ 0 → mrB x y (fun i => (runL x y t u fs m).getD i (0, 0)) (runL x y t u fs m).length 1 = true) := run_marks6
  clear A1 SR B1
  generalize runL x y t u fs m = LL at *
  generalize runD x y t u fs m = DD at *
  go_wp2_with fail
  generalize w1.alloc (.cells #[.int .i64 x, .int .i64 y, .int .i64 t, .int .i64 u] 27) = v1 at *
  generalize w1.heap.size = kO at *
  refine (CS _ SR'.out).mono ?_
  rintro e v ⟨vm, rfl, OM, hb⟩
  replace B := B.trans (hb.mono B.size)
  replace O := O.below hb
  clear hb CS SR'
  obtain ⟨am, cm, rfl, hmc', hmm', SM⟩ := own_src OM
  have S0 : Hid (Src v am LL.length fun i => LL.getD i (0, 0)) := SM
  clear OM SM
  generalize (fun i => LL.getD i (0, 0)) = f at *
  generalize LL.length = l at *
  by_cases hl : l = 0
  · subst hl
    have C0 := fun w' => implPeerPut_w none 0 0 (gP []) 1 1 2 3 w' (by unfold maxLen; omega) (.inl rfl) (by decide)
    have PO := put_one
    simp only [PO.1] at C0
    replace PO := PO.2
    generalize ptL (gP []) 0 1 1 2 3 = K1 at *
    go_wp2_with fail
    refine (C0 _).mono ?_
    rintro e v4 ⟨vo, rfl, OO, hb⟩
    replace B := B.trans (hb.mono B.size)
    clear hb C0
    rw [PO.1] at OO
    have CA := fun (w' : World) (a' : Option Addr) (c' : Nat) (h : SrcC w' a' (1 * 5) (MFPeer (gP K1))) => implPeerAge_any a' 1 c' (gP K1) 1 5 w' (by unfold maxLen; omega) h (by decide) (by decide)
    have OO' : v4.ownsRow v.heap.size 51 5 vo 1 ((List.range (1 * 5)).map (MFPeer (gP K1))) := by
      have e : prow K1 = (List.range (1 * 5)).map (MFPeer (gP K1)) := by rw [prow, PO.1]
      rw [← e]; exact OO
    simp only [PO.2] at CA
    clear PO OO
    obtain ⟨a1, c1, rfl, _, _, SS⟩ := ownF_src OO'
    have SS' : Hid _ := SS
    clear SS OO'
    go_wp2_with fail
    refine (CA _ _ _ SS'.out).mono ?_
    rintro e v5 ⟨rfl, hb⟩
    replace B := B.trans (hb.mono B.size)
    clear hb CA
    go_wp2_with fail
    go_ret
    exact ⟨rfl, B⟩
  have hl0 : ((l : Int) == 0) = false := len_beq10 hl
  have HR1 : Hid (mrB x y f l 1 = true) := HR.out hl
  clear HR
  rcases S0.out with h0 | ⟨b, off, rfl, S⟩
  · exact absurd h0 (by intro h; exact hl h)
  clear S0
  obtain ⟨q, hq, hql⟩ : ∃ q, q = l - 1 ∧ q < l := ⟨l - 1, rfl, by omega⟩
  have hq1 : (l : Int) - 1 = (q : Int) := by omega
  have HQ : Hid (q = l - 1) := hq
  clear hq
  have cq := S.2 q hql
  have cb := S.1
  have hqq : (q : Int) < (l : Int) := by omega
  have A1 := Below.nw v (.cells #[] 51)
  have S0K : SrcC (v.alloc (.cells #[] 51)) (some ⟨v.heap.size, 0, none⟩) (([] : List PT).length * 5) (MFPeer (gP [])) := .inl rfl
  replace O := O.below A1
  replace S := S.below A1 S.1
  replace B := B.trans (A1.mono B.size)
  clear A1
  go_upto_region 9 with fail
  generalize v.heap.size = kv at *
  generalize v.alloc (.cells #[] 51) = v2 at *
  clear cq cb
  have cq := S.2 q hql
  have cb := S.1
  obtain ⟨cq1, cq2⟩ := cq
  generalize hT : (f q).1 = tl at *
  generalize hQ : (f q).2 = cl at *
  have HT : Hid ((f (l - 1)).1 = tl ∧ (f (l - 1)).2 = cl) := by rw [Hid, ← HQ.out]; exact ⟨hT, hQ⟩
  clear hT hQ
  have A1 := Below.nw v2 (.cells #[.int .i64 tl, .int .i64 cl] 41)
  have PT0 : Pt w kO v2.heap.size b off l x y t u tl cl f (some ⟨kv, 0, none⟩) [] (v2.alloc (.cells #[.int .i64 tl, .int .i64 cl] 41)) := ⟨O.below A1, Bx2.new v2 (.int .i64 tl) (.int .i64 cl) 41, S.below A1 S.1, .inl rfl, B.trans (A1.mono B.size)⟩
  clear S0K A1 O S B
  go_upto_region 10 with fail
  clear cq1 cq2 cb
  generalize v2.heap.size = kT at *
  generalize v2.alloc (.cells #[.int .i64 tl, .int .i64 cl] 41) = v3 at *
  have HT0 : Hid (∀ r, r < l → 0 ≤ (f r).1 ∧ (f r).1 ≤ 1000000000000) := fun r hr => by
    have ⟨_, _, _, hok⟩ := mkB_t (mrB_t HR1.out).1
    exact okT_t (hok r hr).1
  go_wp2_with fail
  go_loopw [9, 11] (fun pv i wr => ∃ (k : Nat) (K : List PT) (ap : Option Addr) (c : Nat), k ≤ 8 ∧ k ≤ l ∧ i = .int .i64 k ∧ pv = .slice ap K.length c ∧ K.length ≤ 9 ∧ HadT f l K ∧ Pt w kO kT b off l x y t u tl cl f ap K wr) (fun _ i _ => 8 - (intOf i).toNat)
  case atStart => exact ⟨0, [], _, _, by omega, by omega, rfl, rfl, by simp, HadT.nil _ _, PT0⟩
  case round =>
    clear PT0
    obtain ⟨k, K, ap, c, hk8, hkq, rfl, rfl, hK9, HK, PT⟩ := hrel
    replace HK : Hid (HadT f l K) := HK
    by_cases hlt : k < 8 ∧ k < l
    · obtain ⟨hk1, hk2⟩ := hlt
      have hki1 : (k : Int) < 8 := by omega
      have hki2 : (k : Int) < (l : Int) := by omega
      go_wp2_with fail
      refine (at_any a0 n0 c0 k w.heap.size _ hn0 (by omega) (HC.out.below PT.2.2.2.2)).mono ?_
      rintro e w' ⟨z, rfl, z0, z1, rfl⟩
      obtain ⟨r, hr, hrl, hrl', hlz⟩ := first_at10 hl z0
      obtain ⟨m1, m2⟩ := PT.2.2.1.2 r hrl
      have mb := PT.2.2.1.1
      obtain ⟨i1, i2⟩ := HT0.out r hrl
      have A1 := Below.nw wr (.cells #[.int .i64 (f r).1, .int .i64 (f r).2] 41)
      have M := Bx2.new wr (.int .i64 (f r).1) (.int .i64 (f r).2) 41
      have hw3 : IntKind.i64.wrap ((k : Int) + 3) = (k : Int) + 3 := Go.IntWalk.i64_in _ ⟨by omega, by omega⟩
      have hw5 : IntKind.i64.wrap ((k : Int) + 5) = (k : Int) + 5 := Go.IntWalk.i64_in _ ⟨by omega, by omega⟩
      go_upto_region 14 with fail
      clear m1 m2 mb hr hrl' hlz z0 z1
      replace PT := PT.below A1
      clear A1
      generalize wr.heap.size = jM at *
      generalize wr.alloc (.cells #[.int .i64 (f r).1, .int .i64 (f r).2] 41) = v at *
      obtain ⟨m0, m1, m2, m3, m4⟩ := id M
      go_cut [13] (fun s13 wx => ∃ (jA : Nat) (lo hi : Int), s13 = .pointer (some ⟨jA, 0, none⟩) ∧ lo ≤ (f r).1 ∧ (f r).1 ≤ hi ∧ Bx2 wx jA (.int .i64 lo) (.int .i64 hi) ∧ Bx2 wx jM (.int .i64 (f r).1) (.int .i64 (f r).2) ∧ Pt w kO kT b off l x y t u tl cl f ap K wx)
      case first =>
        as_aux_lemma =>

          refine wp_region_held_drew (S := (fun w' => w'.cell? ⟨jM, 0, none⟩ = some (.int .i64 (f r).1))) (by kernel_rfl) ?_ (fun hHeld => ?_)
          · first | exact m1 | (simp (maxDischargeDepth := 6) [go_sem, *]; done)
          clear m0 m1 m2 m3 m4
          replace PT := PT.drew
          replace M := M.drew
          generalize v.drew = v at *
          obtain ⟨m0, m1, m2, m3, m4⟩ := id M
          refine wpAnyH_take (i := 0) (v := ?_) (by rw [List.getElem?_toArray]; rfl) (by kernel_rfl) (by kernel_rfl) (by kernel_rfl) (by intro _ _ _ h; exact h) (Or.inl ⟨by rfl, ?_⟩) (by assumption) ?_
          rotate_left
          · (intro w hSw; (try dsimp only at hSw); go_simp; all_goals with_reducible rfl)
          (try simp only [Act.put, List.setIfInBounds_toArray, List.set_cons_zero, List.set_cons_succ])
          refine wpAnyH_take (i := 1) (v := ?_) (by rw [List.getElem?_toArray]; rfl) (by kernel_rfl) (by kernel_rfl) (by kernel_rfl) (by intro _ _ _ h; exact h) (Or.inl ⟨by rfl, ?_⟩) (by assumption) ?_
          rotate_left
          · (intro w hSw; (try dsimp only at hSw); go_simp; all_goals with_reducible rfl)
          (try simp only [Act.put, List.setIfInBounds_toArray, List.set_cons_zero, List.set_cons_succ])
          refine wpAnyH_take (i := 2) (v := ?_) (by rw [List.getElem?_toArray]; rfl) (by kernel_rfl) (by kernel_rfl) (by kernel_rfl) (by intro _ _ _ h; exact h) (Or.inl ⟨by rfl, ?_⟩) (by assumption) ?_
          rotate_left
          · (intro w hSw; (try dsimp only at hSw); go_simp; all_goals with_reducible rfl)
          (try simp only [Act.put, List.setIfInBounds_toArray, List.set_cons_zero, List.set_cons_succ])
          refine wpAnyH_take (i := 3) (v := ?_) (by rw [List.getElem?_toArray]; rfl) (by kernel_rfl) (by kernel_rfl) (by kernel_rfl) (by intro _ _ _ h; exact h) (Or.inl ⟨by rfl, ?_⟩) (by assumption) ?_
          rotate_left
          · (intro w hSw; (try dsimp only at hSw); go_simp; all_goals with_reducible rfl)
          (try simp only [Act.put, List.setIfInBounds_toArray, List.set_cons_zero, List.set_cons_succ])
          refine wpAnyH_take (i := 4) (v := ?_) (by rw [List.getElem?_toArray]; rfl) (by kernel_rfl) (by kernel_rfl) (by kernel_rfl) (by intro _ _ _ h; exact h) (Or.inl ⟨by rfl, ?_⟩) (by assumption) ?_
          rotate_left
          · (intro w hSw; (try dsimp only at hSw); go_simp; all_goals with_reducible rfl)
          (try simp only [Act.put, List.setIfInBounds_toArray, List.set_cons_zero, List.set_cons_succ])
          refine wpAnyH_take (i := 8) (v := ?_) (by rw [List.getElem?_toArray]; rfl) (by kernel_rfl) (by kernel_rfl) (by kernel_rfl) (by intro _ _ _ h; exact h) (Or.inl ⟨by rfl, ?_⟩) (by assumption) ?_
          rotate_left
          · (intro w hSw; (try dsimp only at hSw); go_simp; all_goals with_reducible rfl)
          (try simp only [Act.put, List.setIfInBounds_toArray, List.set_cons_zero, List.set_cons_succ])
          refine wpAnyH_take (i := 9) (v := ?_) (by rw [List.getElem?_toArray]; rfl) (by kernel_rfl) (by kernel_rfl) (by kernel_rfl) (by intro _ _ _ h; exact h) (Or.inl ⟨by rfl, ?_⟩) (by assumption) ?_
          rotate_left
          · (intro w hSw; (try dsimp only at hSw); go_simp; all_goals with_reducible rfl)
          (try simp only [Act.put, List.setIfInBounds_toArray, List.set_cons_zero, List.set_cons_succ])
          refine wpAnyH_take (i := 10) (v := ?_) (by rw [List.getElem?_toArray]; rfl) (by kernel_rfl) (by kernel_rfl) (by kernel_rfl) (by intro _ _ _ h; exact h) (Or.inl ⟨by rfl, ?_⟩) (by assumption) ?_
          rotate_left
          · (intro w hSw; (try dsimp only at hSw); go_simp; all_goals with_reducible rfl)
          (try simp only [Act.put, List.setIfInBounds_toArray, List.set_cons_zero, List.set_cons_succ])
          refine wpAnyH_take (i := 11) (v := ?_) (by rw [List.getElem?_toArray]; rfl) (by kernel_rfl) (by kernel_rfl) (by kernel_rfl) (by intro _ _ _ h; exact h) (Or.inl ⟨by rfl, ?_⟩) (by assumption) ?_
          rotate_left
          · (intro w hSw; (try dsimp only at hSw); go_simp; all_goals with_reducible rfl)
          (try simp only [Act.put, List.setIfInBounds_toArray, List.set_cons_zero, List.set_cons_succ])
          refine wpAnyH_take (i := 12) (v := ?_) (by rw [List.getElem?_toArray]; rfl) (by kernel_rfl) (by kernel_rfl) (by kernel_rfl) (by intro _ _ _ h; exact h) (Or.inl ⟨by rfl, ?_⟩) (by assumption) ?_
          rotate_left
          · (intro w hSw; (try dsimp only at hSw); go_simp; all_goals with_reducible rfl)
          (try simp only [Act.put, List.setIfInBounds_toArray, List.set_cons_zero, List.set_cons_succ])
          refine wpAnyH_ready (rs := [5, 17]) (by kernel_rfl) (by simp) ?_
          refine (AllReadyH.cons (by rw [List.getElem?_toArray]; rfl) (fun K hK => ?_) (AllReadyH.cons (by rw [List.getElem?_toArray]; rfl) (fun K hK => ?_) AllReadyH.nil))
          · go_simp
            (try rw [hw3]); (try rw [hw5]); refine (at_i a0 n0 c0 _ w.heap.size _ hn0 (by omega) (by omega) (HC.out.below (by first | exact B2 | exact PT.2.2.2.2))).mono ?_; rintro e w' ⟨y1, rfl, y10, y11, rfl⟩
            (try go_wp2_with fail)
            refine hK.out _ _ ?_ (fun hHeld => ?_)
            · first | exact m1 | (simp (maxDischargeDepth := 6) [go_sem, *]; done)
            clear hK K
            (try simp only [Act.put, List.setIfInBounds_toArray, List.set_cons_zero, List.set_cons_succ])
            refine wpAnyH_take (i := 6) (v := ?_) (by rw [List.getElem?_toArray]; rfl) (by kernel_rfl) (by kernel_rfl) (by kernel_rfl) (by intro _ _ _ h; exact h) (Or.inl ⟨by rfl, ?_⟩) (by assumption) ?_
            rotate_left
            · (intro w hSw; (try dsimp only at hSw); go_simp; all_goals with_reducible rfl)
            (try simp only [Act.put, List.setIfInBounds_toArray, List.set_cons_zero, List.set_cons_succ])
            refine wpAnyH_take (i := 7) (v := ?_) (by rw [List.getElem?_toArray]; rfl) (by kernel_rfl) (by kernel_rfl) (by kernel_rfl) (by intro _ _ _ h; exact h) (Or.inl ⟨by rfl, ?_⟩) (by assumption) ?_
            rotate_left
            · (intro w hSw; (try dsimp only at hSw); go_simp; all_goals with_reducible rfl)
            (try simp only [Act.put, List.setIfInBounds_toArray, List.set_cons_zero, List.set_cons_succ])
            refine wpAnyH_ready (rs := [13, 17]) (by kernel_rfl) (by simp) ?_
            refine (AllReadyH.cons (by rw [List.getElem?_toArray]; rfl) (fun K hK => ?_) (AllReadyH.cons (by rw [List.getElem?_toArray]; rfl) (fun K hK => ?_) AllReadyH.nil))
            · go_simp
              (try rw [hw3]); (try rw [hw5]); refine (at_i a0 n0 c0 _ w.heap.size _ hn0 (by omega) (by omega) (HC.out.below (by first | exact B2 | exact PT.2.2.2.2))).mono ?_; rintro e w' ⟨y2, rfl, y20, y21, rfl⟩
              (try go_wp2_with fail)
              refine hK.out _ _ ?_ (fun hHeld => ?_)
              · first | exact m1 | (simp (maxDischargeDepth := 6) [go_sem, *]; done)
              clear hK K
              (try simp only [Act.put, List.setIfInBounds_toArray, List.set_cons_zero, List.set_cons_succ])
              refine wpAnyH_take (i := 14) (v := ?_) (by rw [List.getElem?_toArray]; rfl) (by kernel_rfl) (by kernel_rfl) (by kernel_rfl) (by intro _ _ _ h; exact h) (Or.inl ⟨by rfl, ?_⟩) (by assumption) ?_
              rotate_left
              · (intro w hSw; (try dsimp only at hSw); go_simp; all_goals with_reducible rfl)
              (try simp only [Act.put, List.setIfInBounds_toArray, List.set_cons_zero, List.set_cons_succ])
              refine wpAnyH_take (i := 15) (v := ?_) (by rw [List.getElem?_toArray]; rfl) (by kernel_rfl) (by kernel_rfl) (by kernel_rfl) (by intro _ _ _ h; exact h) (Or.inl ⟨by rfl, ?_⟩) (by assumption) ?_
              rotate_left
              · (intro w hSw; (try dsimp only at hSw); go_simp; all_goals with_reducible rfl)
              (try simp only [Act.put, List.setIfInBounds_toArray, List.set_cons_zero, List.set_cons_succ])
              refine wpAnyH_take (i := 16) (v := ?_) (by rw [List.getElem?_toArray]; rfl) (by kernel_rfl) (by kernel_rfl) (by kernel_rfl) (by intro _ _ _ h; exact h) (Or.inl ⟨by rfl, ?_⟩) (by assumption) ?_
              rotate_left
              · (intro w hSw; (try dsimp only at hSw); go_simp; all_goals with_reducible rfl)
              (try simp only [Act.put, List.setIfInBounds_toArray, List.set_cons_zero, List.set_cons_succ])
              refine wpAnyH_ready (rs := [17]) (by kernel_rfl) (by simp) ?_
              refine (AllReadyH.cons (by rw [List.getElem?_toArray]; rfl) (fun K hK => ?_) AllReadyH.nil)
              go_simp
              (have N := Bx2.new v (.int .i64 0) (.int .i64 0) 38); (have A := Below.nw v (.cells #[.int .i64 0, .int .i64 0] 38)); (have B2 := PT.2.2.2.2.trans (A.mono PT.2.2.2.2.size)); (have M2 := M.below A); (have hne : jM ≠ v.heap.size := Nat.ne_of_lt m0); (have hne' := Ne.symm hne); clear m0 m1 m2 m3 m4; (generalize v.alloc (.cells #[.int .i64 0, .int .i64 0] 38) = v2 at *); (obtain ⟨m0, m1, m2, m3, m4⟩ := id M2); (obtain ⟨n0', n1, n2, n3, n4⟩ := id N)
              refine hK.out _ _ ?_ (fun hHeld => ?_)
              · first | exact m1 | (simp (maxDischargeDepth := 6) [go_sem, *]; done)
              clear hK K
              (try simp only [Act.put, List.setIfInBounds_toArray, List.set_cons_zero, List.set_cons_succ])
              refine wpAnyH_ready (rs := [18]) (by kernel_rfl) (by simp) ?_
              refine (AllReadyH.cons (by rw [List.getElem?_toArray]; rfl) (fun K hK => ?_) AllReadyH.nil)
              go_simp
              refine hK.out _ _ ?_ (fun hHeld => ?_)
              · first | exact m1 | (simp (maxDischargeDepth := 6) [go_sem, *]; done)
              clear hK K
              (try simp only [Act.put, List.setIfInBounds_toArray, List.set_cons_zero, List.set_cons_succ])
              refine wpAnyH_done (by kernel_rfl) ?_ _
              go_wp2_with fail
              go_meet
              case rel => exact ⟨_, _, _, rfl, lo_le10 i1 i2 y10 y11, hi_ge10 i1 i2 y20 y21, N.two _ _, M.below ((A.setCell (Nat.le_refl _) _).setCell (Nat.le_refl _) _), PT.below ((A.setCell (Nat.le_refl _) _).setCell (Nat.le_refl _) _)⟩
            · go_simp
              (have N := Bx2.new v (.int .i64 0) (.int .i64 0) 38); (have A := Below.nw v (.cells #[.int .i64 0, .int .i64 0] 38)); (have B2 := PT.2.2.2.2.trans (A.mono PT.2.2.2.2.size)); (have M2 := M.below A); (have hne : jM ≠ v.heap.size := Nat.ne_of_lt m0); (have hne' := Ne.symm hne); clear m0 m1 m2 m3 m4; (generalize v.alloc (.cells #[.int .i64 0, .int .i64 0] 38) = v2 at *); (obtain ⟨m0, m1, m2, m3, m4⟩ := id M2); (obtain ⟨n0', n1, n2, n3, n4⟩ := id N)
              refine hK.out _ _ ?_ (fun hHeld => ?_)
              · first | exact m1 | (simp (maxDischargeDepth := 6) [go_sem, *]; done)
              clear hK K
              (try simp only [Act.put, List.setIfInBounds_toArray, List.set_cons_zero, List.set_cons_succ])
              refine wpAnyH_ready (rs := [13]) (by kernel_rfl) (by simp) ?_
              refine (AllReadyH.cons (by rw [List.getElem?_toArray]; rfl) (fun K hK => ?_) AllReadyH.nil)
              go_simp
              (try rw [hw3]); (try rw [hw5]); refine (at_i a0 n0 c0 _ w.heap.size _ hn0 (by omega) (by omega) (HC.out.below (by first | exact B2 | exact PT.2.2.2.2))).mono ?_; rintro e w' ⟨y2, rfl, y20, y21, rfl⟩
              (try go_wp2_with fail)
              refine hK.out _ _ ?_ (fun hHeld => ?_)
              · first | exact m1 | (simp (maxDischargeDepth := 6) [go_sem, *]; done)
              clear hK K
              (try simp only [Act.put, List.setIfInBounds_toArray, List.set_cons_zero, List.set_cons_succ])
              refine wpAnyH_take (i := 14) (v := ?_) (by rw [List.getElem?_toArray]; rfl) (by kernel_rfl) (by kernel_rfl) (by kernel_rfl) (by intro _ _ _ h; exact h) (Or.inl ⟨by rfl, ?_⟩) (by assumption) ?_
              rotate_left
              · (intro w hSw; (try dsimp only at hSw); go_simp; all_goals with_reducible rfl)
              (try simp only [Act.put, List.setIfInBounds_toArray, List.set_cons_zero, List.set_cons_succ])
              refine wpAnyH_take (i := 15) (v := ?_) (by rw [List.getElem?_toArray]; rfl) (by kernel_rfl) (by kernel_rfl) (by kernel_rfl) (by intro _ _ _ h; exact h) (Or.inl ⟨by rfl, ?_⟩) (by assumption) ?_
              rotate_left
              · (intro w hSw; (try dsimp only at hSw); go_simp; all_goals with_reducible rfl)
              (try simp only [Act.put, List.setIfInBounds_toArray, List.set_cons_zero, List.set_cons_succ])
              refine wpAnyH_take (i := 16) (v := ?_) (by rw [List.getElem?_toArray]; rfl) (by kernel_rfl) (by kernel_rfl) (by kernel_rfl) (by intro _ _ _ h; exact h) (Or.inl ⟨by rfl, ?_⟩) (by assumption) ?_
              rotate_left
              · (intro w hSw; (try dsimp only at hSw); go_simp; all_goals with_reducible rfl)
              (try simp only [Act.put, List.setIfInBounds_toArray, List.set_cons_zero, List.set_cons_succ])
              refine wpAnyH_ready (rs := [18]) (by kernel_rfl) (by simp) ?_
              refine (AllReadyH.cons (by rw [List.getElem?_toArray]; rfl) (fun K hK => ?_) AllReadyH.nil)
              go_simp
              refine hK.out _ _ ?_ (fun hHeld => ?_)
              · first | exact m1 | (simp (maxDischargeDepth := 6) [go_sem, *]; done)
              clear hK K
              (try simp only [Act.put, List.setIfInBounds_toArray, List.set_cons_zero, List.set_cons_succ])
              refine wpAnyH_done (by kernel_rfl) ?_ _
              go_wp2_with fail
              go_meet
              case rel => exact ⟨_, _, _, rfl, lo_le10 i1 i2 y10 y11, hi_ge10 i1 i2 y20 y21, N.two _ _, M.below ((A.setCell (Nat.le_refl _) _).setCell (Nat.le_refl _) _), PT.below ((A.setCell (Nat.le_refl _) _).setCell (Nat.le_refl _) _)⟩
          · go_simp
            (have N := Bx2.new v (.int .i64 0) (.int .i64 0) 38); (have A := Below.nw v (.cells #[.int .i64 0, .int .i64 0] 38)); (have B2 := PT.2.2.2.2.trans (A.mono PT.2.2.2.2.size)); (have M2 := M.below A); (have hne : jM ≠ v.heap.size := Nat.ne_of_lt m0); (have hne' := Ne.symm hne); clear m0 m1 m2 m3 m4; (generalize v.alloc (.cells #[.int .i64 0, .int .i64 0] 38) = v2 at *); (obtain ⟨m0, m1, m2, m3, m4⟩ := id M2); (obtain ⟨n0', n1, n2, n3, n4⟩ := id N)
            refine hK.out _ _ ?_ (fun hHeld => ?_)
            · first | exact m1 | (simp (maxDischargeDepth := 6) [go_sem, *]; done)
            clear hK K
            (try simp only [Act.put, List.setIfInBounds_toArray, List.set_cons_zero, List.set_cons_succ])
            refine wpAnyH_ready (rs := [5]) (by kernel_rfl) (by simp) ?_
            refine (AllReadyH.cons (by rw [List.getElem?_toArray]; rfl) (fun K hK => ?_) AllReadyH.nil)
            go_simp
            (try rw [hw3]); (try rw [hw5]); refine (at_i a0 n0 c0 _ w.heap.size _ hn0 (by omega) (by omega) (HC.out.below (by first | exact B2 | exact PT.2.2.2.2))).mono ?_; rintro e w' ⟨y1, rfl, y10, y11, rfl⟩
            (try go_wp2_with fail)
            refine hK.out _ _ ?_ (fun hHeld => ?_)
            · first | exact m1 | (simp (maxDischargeDepth := 6) [go_sem, *]; done)
            clear hK K
            (try simp only [Act.put, List.setIfInBounds_toArray, List.set_cons_zero, List.set_cons_succ])
            refine wpAnyH_take (i := 6) (v := ?_) (by rw [List.getElem?_toArray]; rfl) (by kernel_rfl) (by kernel_rfl) (by kernel_rfl) (by intro _ _ _ h; exact h) (Or.inl ⟨by rfl, ?_⟩) (by assumption) ?_
            rotate_left
            · (intro w hSw; (try dsimp only at hSw); go_simp; all_goals with_reducible rfl)
            (try simp only [Act.put, List.setIfInBounds_toArray, List.set_cons_zero, List.set_cons_succ])
            refine wpAnyH_take (i := 7) (v := ?_) (by rw [List.getElem?_toArray]; rfl) (by kernel_rfl) (by kernel_rfl) (by kernel_rfl) (by intro _ _ _ h; exact h) (Or.inl ⟨by rfl, ?_⟩) (by assumption) ?_
            rotate_left
            · (intro w hSw; (try dsimp only at hSw); go_simp; all_goals with_reducible rfl)
            (try simp only [Act.put, List.setIfInBounds_toArray, List.set_cons_zero, List.set_cons_succ])
            refine wpAnyH_ready (rs := [13]) (by kernel_rfl) (by simp) ?_
            refine (AllReadyH.cons (by rw [List.getElem?_toArray]; rfl) (fun K hK => ?_) AllReadyH.nil)
            go_simp
            (try rw [hw3]); (try rw [hw5]); refine (at_i a0 n0 c0 _ w.heap.size _ hn0 (by omega) (by omega) (HC.out.below (by first | exact B2 | exact PT.2.2.2.2))).mono ?_; rintro e w' ⟨y2, rfl, y20, y21, rfl⟩
            (try go_wp2_with fail)
            refine hK.out _ _ ?_ (fun hHeld => ?_)
            · first | exact m1 | (simp (maxDischargeDepth := 6) [go_sem, *]; done)
            clear hK K
            (try simp only [Act.put, List.setIfInBounds_toArray, List.set_cons_zero, List.set_cons_succ])
            refine wpAnyH_take (i := 14) (v := ?_) (by rw [List.getElem?_toArray]; rfl) (by kernel_rfl) (by kernel_rfl) (by kernel_rfl) (by intro _ _ _ h; exact h) (Or.inl ⟨by rfl, ?_⟩) (by assumption) ?_
            rotate_left
            · (intro w hSw; (try dsimp only at hSw); go_simp; all_goals with_reducible rfl)
            (try simp only [Act.put, List.setIfInBounds_toArray, List.set_cons_zero, List.set_cons_succ])
            refine wpAnyH_take (i := 15) (v := ?_) (by rw [List.getElem?_toArray]; rfl) (by kernel_rfl) (by kernel_rfl) (by kernel_rfl) (by intro _ _ _ h; exact h) (Or.inl ⟨by rfl, ?_⟩) (by assumption) ?_
            rotate_left
            · (intro w hSw; (try dsimp only at hSw); go_simp; all_goals with_reducible rfl)
            (try simp only [Act.put, List.setIfInBounds_toArray, List.set_cons_zero, List.set_cons_succ])
            refine wpAnyH_take (i := 16) (v := ?_) (by rw [List.getElem?_toArray]; rfl) (by kernel_rfl) (by kernel_rfl) (by kernel_rfl) (by intro _ _ _ h; exact h) (Or.inl ⟨by rfl, ?_⟩) (by assumption) ?_
            rotate_left
            · (intro w hSw; (try dsimp only at hSw); go_simp; all_goals with_reducible rfl)
            (try simp only [Act.put, List.setIfInBounds_toArray, List.set_cons_zero, List.set_cons_succ])
            refine wpAnyH_ready (rs := [18]) (by kernel_rfl) (by simp) ?_
            refine (AllReadyH.cons (by rw [List.getElem?_toArray]; rfl) (fun K hK => ?_) AllReadyH.nil)
            go_simp
            refine hK.out _ _ ?_ (fun hHeld => ?_)
            · first | exact m1 | (simp (maxDischargeDepth := 6) [go_sem, *]; done)
            clear hK K
            (try simp only [Act.put, List.setIfInBounds_toArray, List.set_cons_zero, List.set_cons_succ])
            refine wpAnyH_done (by kernel_rfl) ?_ _
            go_wp2_with fail
            go_meet
            case rel => exact ⟨_, _, _, rfl, lo_le10 i1 i2 y10 y11, hi_ge10 i1 i2 y20 y21, N.two _ _, M.below ((A.setCell (Nat.le_refl _) _).setCell (Nat.le_refl _) _), PT.below ((A.setCell (Nat.le_refl _) _).setCell (Nat.le_refl _) _)⟩
      case rest =>
        clear m0 m1 m2 m3 m4 M PT
        obtain ⟨jA, lo, hi, rfl, g1, g2, AB, M, PT⟩ := hcut
        generalize wc = v at *
        have hm : K.length ≤ maxLen := max10 (by omega)
        have CI := fun (w' : World) (h : SrcC w' ap (K.length * 5) (MFPeer (gP K))) => implPeerPut_w ap K.length c (gP K) (((k : Int) * 3).tmod 8) lo hi (f r).2 w' hm h (wf_k3 hk1)
        have CS := fun (w' : World) (h : SrcC w' ap (K.length * 5) (MFPeer (gP K))) => specPeerPut_any ap K.length c (gP K) (((k : Int) * 3).tmod 8) lo hi (f r).2 w' hm h
        have HU : Hid (ptC (gP K) K.length (((k : Int) * 3).tmod 8) lo hi (f r).2 = 0 → HadT f l (ptL (gP K) K.length (((k : Int) * 3).tmod 8) lo hi (f r).2)) := fun hp => HK.out.put hp hrl rfl g1 g2
        have hU9 := PeerPut_len (gP K) K.length (((k : Int) * 3).tmod 8) lo hi (f r).2
        obtain ⟨b0, b1, b2, b3, b4⟩ := id AB
        obtain ⟨m0, m1, m2, m3, m4⟩ := id M
        cases hP : ptP (gP K) K.length (((k : Int) * 3).tmod 8) lo hi (f r).2
        · simp only [(ptL_f hP).2] at CI CS
          clear hP HU hU9
          go_wp2_with fail
          refine (CI _ PT.2.2.2.1).mono ?_
          rintro e v5 ⟨vo, rfl, _, hb⟩
          clear b0 b1 b2 b3 b4 m0 m1 m2 m3 m4
          replace PT := PT.below hb
          replace AB := AB.below hb
          replace M := M.below hb
          clear hb CI
          obtain ⟨b0, b1, b2, b3, b4⟩ := id AB
          obtain ⟨m0, m1, m2, m3, m4⟩ := id M
          go_wp2_with fail
          refine (CS _ PT.2.2.2.1).mono ?_
          rintro e v6 ⟨vs, rfl, _, hb⟩
          clear b0 b1 b2 b3 b4 m0 m1 m2 m3 m4
          replace PT := PT.below hb
          clear hb CS AB M
          go_wp2_with fail
          go_roundw
          case rel => exact ⟨k + 1, K, ap, c, by omega, by omega, by go_num, rfl, hK9, HK.out, PT⟩
          case measure => simp [intOf]; omega
        · simp only [(ptL_t hP).2] at CI CS
          replace HU : Hid _ := HU.out (ptL_t hP).2
          clear hP
          generalize ptL (gP K) K.length (((k : Int) * 3).tmod 8) lo hi (f r).2 = K2 at *
          go_wp2_with fail
          refine (CI _ PT.2.2.2.1).mono ?_
          rintro e v5 ⟨vo, rfl, OO, hb⟩
          clear b0 b1 b2 b3 b4 m0 m1 m2 m3 m4
          replace PT := PT.below hb
          replace AB := AB.below hb
          replace M := M.below hb
          clear hb CI
          obtain ⟨a2, c2, rfl, _, _, SS⟩ := ownF_src OO
          have SK : Hid (SrcC v5 a2 (K2.length * 5) (MFPeer (gP K2))) := SS
          clear SS OO
          obtain ⟨b0, b1, b2, b3, b4⟩ := id AB
          obtain ⟨m0, m1, m2, m3, m4⟩ := id M
          go_wp2_with fail
          refine (CS _ PT.2.2.2.1).mono ?_
          rintro e v6 ⟨vs, rfl, _, hb⟩
          clear b0 b1 b2 b3 b4 m0 m1 m2 m3 m4
          have PT2 : Pt w kO kT b off l x y t u tl cl f a2 K2 v6 := by
            obtain ⟨p1, p2, p3, _, p5⟩ := PT.below hb
            exact ⟨p1, p2, p3, SK.out.below hb, p5⟩
          clear hb CS AB M PT SK
          go_wp2_with fail
          go_roundw
          case rel => exact ⟨k + 1, K2, a2, c2, by omega, by omega, by go_num, rfl, hU9, HU.out, PT2⟩
          case measure => simp [intOf]; omega
    · by_cases hk1 : k < 8
      · have hki1 : (k : Int) < 8 := by omega
        have hki2 : decide ((k : Int) < (l : Int)) = false := by simp; omega
        have hm : K.length ≤ maxLen := max10 (by omega)
        have CC := fun (w' : World) (h : SrcC w' ap (K.length * 5) (MFPeer (gP K))) => implPeersCarried_w ap K.length c (gP K) x y cl 1000000000000 w' hm h
        have CS := fun (w' : World) (h : SrcC w' ap (K.length * 5) (MFPeer (gP K))) => specPeersCarried_any ap K.length c (gP K) x y cl 1000000000000 w' hm h
        have HH : Hid (∀ k, k < (caL (gP K) K.length x y cl 1000000000000).length → holdsI (gC (caL (gP K) K.length x y cl 1000000000000) k).2.1 (gC (caL (gP K) K.length x y cl 1000000000000) k).2.2 tl = true) := fun k hk => by
          rw [← HT.out.2] at hk ⊢
          rw [← HT.out.1]
          exact ca_truth HR1.out (by omega) HK.out hk
        have HA : Hid (∀ k, k + 1 < (caL (gP K) K.length x y cl 1000000000000).length → (gC (caL (gP K) K.length x y cl 1000000000000) k).1 < (gC (caL (gP K) K.length x y cl 1000000000000) (k + 1)).1) := fun k hk => ca_asc hk
        have hC9 := caL_len (gP K) K.length x y cl 1000000000000
        generalize caL (gP K) K.length x y cl 1000000000000 = C at *
        obtain ⟨o0, o1, o2, o3, o4, o5, o6, o7, o8⟩ := id PT.1
        obtain ⟨t0, t1, t2, t3, t4⟩ := id PT.2.1
        go_wp2_with fail
        refine (CC _ PT.2.2.2.1).mono ?_
        rintro e v5 ⟨v0, v1', rfl, O0, O1, _, hb⟩
        clear o0 o1 o2 o3 o4 o5 o6 o7 o8 t0 t1 t2 t3 t4
        replace PT := PT.below hb
        clear hb CC
        have TW : Two v5 wr.heap.size C v0 v1' := ⟨O0, O1⟩
        simp only [List.length_map] at O0 O1
        obtain ⟨o0, o1, o2, o3, o4, o5, o6, o7, o8⟩ := id PT.1
        obtain ⟨t0, t1, t2, t3, t4⟩ := id PT.2.1
        obtain ⟨av0, cv0, rfl⟩ := own_slice O0
        obtain ⟨av1, cv1, rfl⟩ := own_slice O1
        clear O0 O1
        go_wp2_with fail
        refine (CS _ PT.2.2.2.1).mono ?_
        rintro e v6 ⟨u0, u1, rfl, U0, U1, hb⟩
        clear o0 o1 o2 o3 o4 o5 o6 o7 o8 t0 t1 t2 t3 t4
        replace TW := TW.below hb
        have TT := (PT.below hb).2.1
        have BB := (PT.below hb).2.2.2.2
        clear hb CS PT
        simp only [List.length_map] at U0 U1
        obtain ⟨au0, cu0, rfl⟩ := own_slice U0
        obtain ⟨au1, cu1, rfl⟩ := own_slice U1
        clear U0 U1
        have LS0 : Ls w kT wr.heap.size tl cl C (.slice av0 C.length cv0) (.slice av1 C.length cv1) v6 := ⟨TW, TT, BB⟩
        generalize wr.heap.size = base at *
        clear TW TT BB
        go_wp2_with fail
        go_loopw [22] (fun i wr => ∃ k : Nat, k ≤ C.length ∧ i = .int .i64 k ∧ Ls w kT base tl cl C (.slice av0 C.length cv0) (.slice av1 C.length cv1) wr) (fun i _ => C.length - (intOf i).toNat)
        case atStart => exact ⟨0, Nat.zero_le _, rfl, LS0⟩
        case round =>
          clear LS0
          obtain ⟨k, hk, rfl, TW⟩ := hrel
          by_cases hlt : k < C.length
          · have hli : (k : Int) < (C.length : Int) := by omega
            obtain ⟨g, gc, g', gc', e0, e1, _, _, _, _, _⟩ := TW.1.at hlt
            injection e0 with e0a _ e0c
            injection e1 with e1a _ e1c
            subst e0a e0c e1a e1c
            have CH := fun (w' : World) => implHolds_v10 _ _ tl w' (HH.out k hlt)
            by_cases hpos : 0 < k
            · obtain ⟨kk, hkk⟩ : ∃ kk, k = kk + 1 := ⟨k - 1, by omega⟩
              have hge : decide ((gC C k).1 ≤ (gC C kk).1) = false := by
                have := HA.out kk (by omega)
                rw [hkk]
                exact decide_eq_false (by omega)
              have hkl : kk < C.length := by omega
              have hpi : (0 : Int) < (k : Int) := by omega
              have hk1 : (k : Int) - 1 = (kk : Int) := by omega
              have hw1 : IntKind.i64.wrap (kk : Int) = (kk : Int) := Go.IntWalk.i64_in _ ⟨by omega, by omega⟩
              have hkl' : (kk : Int) < (C.length : Int) := by omega
              clear hkk
              have LAY : Hid (∀ wq, Ls w kT base tl cl C (.slice (some ⟨g, 0, none⟩) C.length cv0) (.slice (some ⟨g', 0, none⟩) C.length cv1) wq → g < wq.heap.size ∧ g' < wq.heap.size ∧ wq.cell? ⟨g, k * 2, none⟩ = some (.int .i64 (gC C k).2.1) ∧ wq.cell? ⟨g, k * 2 + 1, none⟩ = some (.int .i64 (gC C k).2.2) ∧ wq.cell? ⟨g', k, none⟩ = some (.int .i64 (gC C k).1) ∧ wq.cell? ⟨g', kk, none⟩ = some (.int .i64 (gC C kk).1) ∧ wq.cell? ⟨kT, 0, none⟩ = some (.int .i64 tl) ∧ kT < wq.heap.size) := fun wq hq => by
                obtain ⟨a, c, a', c', e0, e1, h1, h2, h3, h4, h5⟩ := hq.1.at hlt
                obtain ⟨d, _, d', _, f0, f1, _, _, _, _, i5⟩ := hq.1.at hkl
                injection e0 with e0a _ _
                injection e1 with e1a _ _
                injection f0 with f0a _ _
                injection f1 with f1a _ _
                simp at e0a e1a f0a f1a
                subst e0a e1a f0a f1a
                exact ⟨h1, h2, h3, h4, h5, i5, hq.2.1.2.1, hq.2.1.1⟩
              generalize (gC C k).2.1 = cl0 at *
              generalize (gC C k).2.2 = ch0 at *
              generalize (gC C k).1 = id1 at *
              generalize (gC C kk).1 = id0 at *
              obtain ⟨hg, hg', q1, q2, q3, q4, t1, tk⟩ := LAY.out _ TW
              go_upto_region 28 with fail
              refine wp_region_held_drew (S := (fun w' => w'.cell? ⟨g, k * 2, none⟩ = some (.int .i64 cl0) ∧ w'.cell? ⟨g, k * 2 + 1, none⟩ = some (.int .i64 ch0) ∧ w'.cell? ⟨kT, 0, none⟩ = some (.int .i64 tl) ∧ w'.cell? ⟨g', k, none⟩ = some (.int .i64 id1) ∧ w'.cell? ⟨g', kk, none⟩ = some (.int .i64 id0))) (by kernel_rfl) ?_ (fun hHeld => ?_)
              · first | exact ⟨q1, q2, t1, q3, q4⟩ | (simp (maxDischargeDepth := 6) [go_sem, *]; done)
              clear hg hg' q1 q2 q3 q4 t1 tk
              replace TW := TW.drew
              generalize wr.drew = wr at *
              obtain ⟨hg, hg', q1, q2, q3, q4, t1, tk⟩ := LAY.out _ TW
              refine wpAnyH_take (i := 0) (v := ?_) (by rw [List.getElem?_toArray]; rfl) (by kernel_rfl) (by kernel_rfl) (by kernel_rfl) (by intro _ _ _ h; exact h) (Or.inl ⟨by rfl, ?_⟩) (by assumption) ?_
              rotate_left
              · (intro w hSw; (try dsimp only at hSw); go_simp; all_goals with_reducible rfl)
              (try simp only [Act.put, List.setIfInBounds_toArray, List.set_cons_zero, List.set_cons_succ])
              refine wpAnyH_take (i := 1) (v := ?_) (by rw [List.getElem?_toArray]; rfl) (by kernel_rfl) (by kernel_rfl) (by kernel_rfl) (by intro _ _ _ h; exact h) (Or.inl ⟨by rfl, ?_⟩) (by assumption) ?_
              rotate_left
              · (intro w hSw; (try dsimp only at hSw); go_simp; all_goals with_reducible rfl)
              (try simp only [Act.put, List.setIfInBounds_toArray, List.set_cons_zero, List.set_cons_succ])
              refine wpAnyH_take (i := 2) (v := ?_) (by rw [List.getElem?_toArray]; rfl) (by kernel_rfl) (by kernel_rfl) (by kernel_rfl) (by intro _ _ _ h; exact h) (Or.inl ⟨by rfl, ?_⟩) (by assumption) ?_
              rotate_left
              · (intro w hSw; (try dsimp only at hSw); go_simp; all_goals with_reducible rfl)
              (try simp only [Act.put, List.setIfInBounds_toArray, List.set_cons_zero, List.set_cons_succ])
              refine wpAnyH_take (i := 3) (v := ?_) (by rw [List.getElem?_toArray]; rfl) (by kernel_rfl) (by kernel_rfl) (by kernel_rfl) (by intro _ _ _ h; exact h) (Or.inl ⟨by rfl, ?_⟩) (by assumption) ?_
              rotate_left
              · (intro w hSw; (try dsimp only at hSw); go_simp; all_goals with_reducible rfl)
              (try simp only [Act.put, List.setIfInBounds_toArray, List.set_cons_zero, List.set_cons_succ])
              refine wpAnyH_take (i := 4) (v := ?_) (by rw [List.getElem?_toArray]; rfl) (by kernel_rfl) (by kernel_rfl) (by kernel_rfl) (by intro _ _ _ h; exact h) (Or.inl ⟨by rfl, ?_⟩) (by assumption) ?_
              rotate_left
              · (intro w hSw; (try dsimp only at hSw); go_simp; all_goals with_reducible rfl)
              (try simp only [Act.put, List.setIfInBounds_toArray, List.set_cons_zero, List.set_cons_succ])
              refine wpAnyH_take (i := 5) (v := ?_) (by rw [List.getElem?_toArray]; rfl) (by kernel_rfl) (by kernel_rfl) (by kernel_rfl) (by intro _ _ _ h; exact h) (Or.inl ⟨by rfl, ?_⟩) (by assumption) ?_
              rotate_left
              · (intro w hSw; (try dsimp only at hSw); go_simp; all_goals with_reducible rfl)
              (try simp only [Act.put, List.setIfInBounds_toArray, List.set_cons_zero, List.set_cons_succ])
              refine wpAnyH_ready (rs := [6]) (by kernel_rfl) (by simp) ?_
              refine AllReadyH.cons (by rw [List.getElem?_toArray]; rfl) (fun K hK => ?_) AllReadyH.nil
              go_simp
              refine (CH _).mono ?_; rintro e v9 ⟨rfl, hb⟩; clear hg hg' q1 q2 q3 q4 t1 tk; (replace TW := TW.below hb); clear hb; obtain ⟨hg, hg', q1, q2, q3, q4, t1, tk⟩ := LAY.out _ TW
              (try go_wp2_with fail)
              refine hK.out _ _ ?_ (fun hHeld => ?_)
              · first | exact ⟨q1, q2, t1, q3, q4⟩ | (simp (maxDischargeDepth := 6) [go_sem, *]; done)
              clear hK K
              (try simp only [Act.put, List.setIfInBounds_toArray, List.set_cons_zero, List.set_cons_succ])
              refine wpAnyH_take (i := 7) (v := ?_) (by rw [List.getElem?_toArray]; rfl) (by kernel_rfl) (by kernel_rfl) (by kernel_rfl) (by intro _ _ _ h; exact h) (Or.inl ⟨by rfl, ?_⟩) (by assumption) ?_
              rotate_left
              · (intro w hSw; (try dsimp only at hSw); go_simp; all_goals with_reducible rfl)
              (try simp only [Act.put, List.setIfInBounds_toArray, List.set_cons_zero, List.set_cons_succ])
              refine wpAnyH_take (i := 8) (v := ?_) (by rw [List.getElem?_toArray]; rfl) (by kernel_rfl) (by kernel_rfl) (by kernel_rfl) (by intro _ _ _ h; exact h) (Or.inl ⟨by rfl, ?_⟩) (by assumption) ?_
              rotate_left
              · (intro w hSw; (try dsimp only at hSw); go_simp; all_goals with_reducible rfl)
              (try simp only [Act.put, List.setIfInBounds_toArray, List.set_cons_zero, List.set_cons_succ])
              refine wpAnyH_take (i := 9) (v := ?_) (by rw [List.getElem?_toArray]; rfl) (by kernel_rfl) (by kernel_rfl) (by kernel_rfl) (by intro _ _ _ h; exact h) (Or.inl ⟨by rfl, ?_⟩) (by assumption) ?_
              rotate_left
              · (intro w hSw; (try dsimp only at hSw); go_simp; all_goals with_reducible rfl)
              (try simp only [Act.put, List.setIfInBounds_toArray, List.set_cons_zero, List.set_cons_succ])
              refine wpAnyH_take (i := 10) (v := ?_) (by rw [List.getElem?_toArray]; rfl) (by kernel_rfl) (by kernel_rfl) (by kernel_rfl) (by intro _ _ _ h; exact h) (Or.inl ⟨by rfl, ?_⟩) (by assumption) ?_
              rotate_left
              · (intro w hSw; (try dsimp only at hSw); go_simp; all_goals with_reducible rfl)
              (try simp only [Act.put, List.setIfInBounds_toArray, List.set_cons_zero, List.set_cons_succ])
              refine wpAnyH_take (i := 11) (v := ?_) (by rw [List.getElem?_toArray]; rfl) (by kernel_rfl) (by kernel_rfl) (by kernel_rfl) (by intro _ _ _ h; exact h) (Or.inl ⟨by rfl, ?_⟩) (by assumption) ?_
              rotate_left
              · (intro w hSw; (try dsimp only at hSw); go_simp; all_goals with_reducible rfl)
              (try simp only [Act.put, List.setIfInBounds_toArray, List.set_cons_zero, List.set_cons_succ])
              refine wpAnyH_take (i := 12) (v := ?_) (by rw [List.getElem?_toArray]; rfl) (by kernel_rfl) (by kernel_rfl) (by kernel_rfl) (by intro _ _ _ h; exact h) (Or.inl ⟨by rfl, ?_⟩) (by assumption) ?_
              rotate_left
              · (intro w hSw; (try dsimp only at hSw); go_simp; all_goals with_reducible rfl)
              (try simp only [Act.put, List.setIfInBounds_toArray, List.set_cons_zero, List.set_cons_succ])
              refine wpAnyH_take (i := 13) (v := ?_) (by rw [List.getElem?_toArray]; rfl) (by kernel_rfl) (by kernel_rfl) (by kernel_rfl) (by intro _ _ _ h; exact h) (Or.inl ⟨by rfl, ?_⟩) (by assumption) ?_
              rotate_left
              · (intro w hSw; (try dsimp only at hSw); go_simp; all_goals with_reducible rfl)
              (try simp only [Act.put, List.setIfInBounds_toArray, List.set_cons_zero, List.set_cons_succ])
              refine wpAnyH_take (i := 14) (v := ?_) (by rw [List.getElem?_toArray]; rfl) (by kernel_rfl) (by kernel_rfl) (by kernel_rfl) (by intro _ _ _ h; exact h) (Or.inl ⟨by rfl, ?_⟩) (by assumption) ?_
              rotate_left
              · (intro w hSw; (try dsimp only at hSw); go_simp; all_goals with_reducible rfl)
              (try simp only [Act.put, List.setIfInBounds_toArray, List.set_cons_zero, List.set_cons_succ])
              refine wpAnyH_take (i := 15) (v := ?_) (by rw [List.getElem?_toArray]; rfl) (by kernel_rfl) (by kernel_rfl) (by kernel_rfl) (by intro _ _ _ h; exact h) (Or.inl ⟨by rfl, ?_⟩) (by assumption) ?_
              rotate_left
              · (intro w hSw; (try dsimp only at hSw); go_simp; all_goals with_reducible rfl)
              (try simp only [Act.put, List.setIfInBounds_toArray, List.set_cons_zero, List.set_cons_succ])
              refine wpAnyH_take (i := 16) (v := ?_) (by rw [List.getElem?_toArray]; rfl) (by kernel_rfl) (by kernel_rfl) (by kernel_rfl) (by intro _ _ _ h; exact h) (Or.inl ⟨by rfl, ?_⟩) (by assumption) ?_
              rotate_left
              · (intro w hSw; (try dsimp only at hSw); go_simp; all_goals with_reducible rfl)
              (try simp only [Act.put, List.setIfInBounds_toArray, List.set_cons_zero, List.set_cons_succ])
              refine wpAnyH_take (i := 17) (v := ?_) (by rw [List.getElem?_toArray]; rfl) (by kernel_rfl) (by kernel_rfl) (by kernel_rfl) (by intro _ _ _ h; exact h) (Or.inl ⟨by rfl, ?_⟩) (by assumption) ?_
              rotate_left
              · (intro w hSw; (try dsimp only at hSw); go_simp; all_goals with_reducible rfl)
              (try simp only [Act.put, List.setIfInBounds_toArray, List.set_cons_zero, List.set_cons_succ])
              refine wpAnyH_take (i := 18) (v := ?_) (by rw [List.getElem?_toArray]; rfl) (by kernel_rfl) (by kernel_rfl) (by kernel_rfl) (by intro _ _ _ h; exact h) (Or.inl ⟨by rfl, ?_⟩) (by assumption) ?_
              rotate_left
              · (intro w hSw; (try dsimp only at hSw); go_simp; all_goals with_reducible rfl)
              (try simp only [Act.put, List.setIfInBounds_toArray, List.set_cons_zero, List.set_cons_succ])
              refine wpAnyH_take (i := 19) (v := ?_) (by rw [List.getElem?_toArray]; rfl) (by kernel_rfl) (by kernel_rfl) (by kernel_rfl) (by intro _ _ _ h; exact h) (Or.inl ⟨by rfl, ?_⟩) (by assumption) ?_
              rotate_left
              · (intro w hSw; (try dsimp only at hSw); go_simp; all_goals with_reducible rfl)
              (try simp only [Act.put, List.setIfInBounds_toArray, List.set_cons_zero, List.set_cons_succ])
              refine wpAnyH_take (i := 20) (v := ?_) (by rw [List.getElem?_toArray]; rfl) (by kernel_rfl) (by kernel_rfl) (by kernel_rfl) (by intro _ _ _ h; exact h) (Or.inl ⟨by rfl, ?_⟩) (by assumption) ?_
              rotate_left
              · (intro w hSw; (try dsimp only at hSw); go_simp; all_goals with_reducible rfl)
              (try simp only [Act.put, List.setIfInBounds_toArray, List.set_cons_zero, List.set_cons_succ])
              refine wpAnyH_take (i := 21) (v := ?_) (by rw [List.getElem?_toArray]; rfl) (by kernel_rfl) (by kernel_rfl) (by kernel_rfl) (by intro _ _ _ h; exact h) (Or.inl ⟨by rfl, ?_⟩) (by assumption) ?_
              rotate_left
              · (intro w hSw; (try dsimp only at hSw); go_simp; all_goals with_reducible rfl)
              (try simp only [Act.put, List.setIfInBounds_toArray, List.set_cons_zero, List.set_cons_succ])
              (try simp only [hge])
              refine wpAnyH_take (i := 22) (v := ?_) (by rw [List.getElem?_toArray]; rfl) (by kernel_rfl) (by kernel_rfl) (by kernel_rfl) (by intro _ _ _ h; exact h) (Or.inl ⟨by rfl, ?_⟩) (by assumption) ?_
              rotate_left
              · (intro w hSw; (try dsimp only at hSw); go_simp; all_goals with_reducible rfl)
              (try simp only [Act.put, List.setIfInBounds_toArray, List.set_cons_zero, List.set_cons_succ])
              refine wpAnyH_take (i := 23) (v := ?_) (by rw [List.getElem?_toArray]; rfl) (by kernel_rfl) (by kernel_rfl) (by kernel_rfl) (by intro _ _ _ h; exact h) (Or.inl ⟨by rfl, ?_⟩) (by assumption) ?_
              rotate_left
              · (intro w hSw; (try dsimp only at hSw); go_simp; all_goals with_reducible rfl)
              (try simp only [Act.put, List.setIfInBounds_toArray, List.set_cons_zero, List.set_cons_succ])
              refine wpAnyH_done (by kernel_rfl) ?_ _
              go_wp2_with fail
              go_roundw
              case rel => exact ⟨k + 1, by omega, by go_num, TW⟩
              case measure => simp [intOf]; omega
            · have hk0 : k = 0 := by omega
              have hpi : decide ((0 : Int) < (k : Int)) = false := by simp; omega
              have LAY : Hid (∀ wq, Ls w kT base tl cl C (.slice (some ⟨g, 0, none⟩) C.length cv0) (.slice (some ⟨g', 0, none⟩) C.length cv1) wq → g < wq.heap.size ∧ g' < wq.heap.size ∧ wq.cell? ⟨g, k * 2, none⟩ = some (.int .i64 (gC C k).2.1) ∧ wq.cell? ⟨g, k * 2 + 1, none⟩ = some (.int .i64 (gC C k).2.2) ∧ wq.cell? ⟨g', k, none⟩ = some (.int .i64 (gC C k).1) ∧ wq.cell? ⟨kT, 0, none⟩ = some (.int .i64 tl) ∧ kT < wq.heap.size) := fun wq hq => by
                obtain ⟨a, c, a', c', e0, e1, h1, h2, h3, h4, h5⟩ := hq.1.at hlt
                injection e0 with e0a _ _
                injection e1 with e1a _ _
                simp at e0a e1a
                subst e0a e1a
                exact ⟨h1, h2, h3, h4, h5, hq.2.1.2.1, hq.2.1.1⟩
              clear hk0
              generalize (gC C k).2.1 = cl0 at *
              generalize (gC C k).2.2 = ch0 at *
              generalize (gC C k).1 = id1 at *
              obtain ⟨hg, hg', q1, q2, q3, t1, tk⟩ := LAY.out _ TW
              go_upto_region 28 with fail
              refine wp_region_held_drew (S := (fun w' => w'.cell? ⟨g, k * 2, none⟩ = some (.int .i64 cl0) ∧ w'.cell? ⟨g, k * 2 + 1, none⟩ = some (.int .i64 ch0) ∧ w'.cell? ⟨kT, 0, none⟩ = some (.int .i64 tl) ∧ w'.cell? ⟨g', k, none⟩ = some (.int .i64 id1))) (by kernel_rfl) ?_ (fun hHeld => ?_)
              · first | exact ⟨q1, q2, t1, q3⟩ | (simp (maxDischargeDepth := 6) [go_sem, *]; done)
              clear hg hg' q1 q2 q3 t1 tk
              replace TW := TW.drew
              generalize wr.drew = wr at *
              obtain ⟨hg, hg', q1, q2, q3, t1, tk⟩ := LAY.out _ TW
              refine wpAnyH_take (i := 0) (v := ?_) (by rw [List.getElem?_toArray]; rfl) (by kernel_rfl) (by kernel_rfl) (by kernel_rfl) (by intro _ _ _ h; exact h) (Or.inl ⟨by rfl, ?_⟩) (by assumption) ?_
              rotate_left
              · (intro w hSw; (try dsimp only at hSw); go_simp; all_goals with_reducible rfl)
              (try simp only [Act.put, List.setIfInBounds_toArray, List.set_cons_zero, List.set_cons_succ])
              refine wpAnyH_take (i := 1) (v := ?_) (by rw [List.getElem?_toArray]; rfl) (by kernel_rfl) (by kernel_rfl) (by kernel_rfl) (by intro _ _ _ h; exact h) (Or.inl ⟨by rfl, ?_⟩) (by assumption) ?_
              rotate_left
              · (intro w hSw; (try dsimp only at hSw); go_simp; all_goals with_reducible rfl)
              (try simp only [Act.put, List.setIfInBounds_toArray, List.set_cons_zero, List.set_cons_succ])
              refine wpAnyH_take (i := 2) (v := ?_) (by rw [List.getElem?_toArray]; rfl) (by kernel_rfl) (by kernel_rfl) (by kernel_rfl) (by intro _ _ _ h; exact h) (Or.inl ⟨by rfl, ?_⟩) (by assumption) ?_
              rotate_left
              · (intro w hSw; (try dsimp only at hSw); go_simp; all_goals with_reducible rfl)
              (try simp only [Act.put, List.setIfInBounds_toArray, List.set_cons_zero, List.set_cons_succ])
              refine wpAnyH_take (i := 3) (v := ?_) (by rw [List.getElem?_toArray]; rfl) (by kernel_rfl) (by kernel_rfl) (by kernel_rfl) (by intro _ _ _ h; exact h) (Or.inl ⟨by rfl, ?_⟩) (by assumption) ?_
              rotate_left
              · (intro w hSw; (try dsimp only at hSw); go_simp; all_goals with_reducible rfl)
              (try simp only [Act.put, List.setIfInBounds_toArray, List.set_cons_zero, List.set_cons_succ])
              refine wpAnyH_take (i := 4) (v := ?_) (by rw [List.getElem?_toArray]; rfl) (by kernel_rfl) (by kernel_rfl) (by kernel_rfl) (by intro _ _ _ h; exact h) (Or.inl ⟨by rfl, ?_⟩) (by assumption) ?_
              rotate_left
              · (intro w hSw; (try dsimp only at hSw); go_simp; all_goals with_reducible rfl)
              (try simp only [Act.put, List.setIfInBounds_toArray, List.set_cons_zero, List.set_cons_succ])
              refine wpAnyH_take (i := 5) (v := ?_) (by rw [List.getElem?_toArray]; rfl) (by kernel_rfl) (by kernel_rfl) (by kernel_rfl) (by intro _ _ _ h; exact h) (Or.inl ⟨by rfl, ?_⟩) (by assumption) ?_
              rotate_left
              · (intro w hSw; (try dsimp only at hSw); go_simp; all_goals with_reducible rfl)
              (try simp only [Act.put, List.setIfInBounds_toArray, List.set_cons_zero, List.set_cons_succ])
              refine wpAnyH_ready (rs := [6]) (by kernel_rfl) (by simp) ?_
              refine AllReadyH.cons (by rw [List.getElem?_toArray]; rfl) (fun K hK => ?_) AllReadyH.nil
              go_simp
              refine (CH _).mono ?_; rintro e v9 ⟨rfl, hb⟩; clear hg hg' q1 q2 q3 t1 tk; (replace TW := TW.below hb); clear hb; obtain ⟨hg, hg', q1, q2, q3, t1, tk⟩ := LAY.out _ TW
              (try go_wp2_with fail)
              refine hK.out _ _ ?_ (fun hHeld => ?_)
              · first | exact ⟨q1, q2, t1, q3⟩ | (simp (maxDischargeDepth := 6) [go_sem, *]; done)
              clear hK K
              (try simp only [Act.put, List.setIfInBounds_toArray, List.set_cons_zero, List.set_cons_succ])
              refine wpAnyH_take (i := 7) (v := ?_) (by rw [List.getElem?_toArray]; rfl) (by kernel_rfl) (by kernel_rfl) (by kernel_rfl) (by intro _ _ _ h; exact h) (Or.inl ⟨by rfl, ?_⟩) (by assumption) ?_
              rotate_left
              · (intro w hSw; (try dsimp only at hSw); go_simp; all_goals with_reducible rfl)
              (try simp only [Act.put, List.setIfInBounds_toArray, List.set_cons_zero, List.set_cons_succ])
              refine wpAnyH_take (i := 8) (v := ?_) (by rw [List.getElem?_toArray]; rfl) (by kernel_rfl) (by kernel_rfl) (by kernel_rfl) (by intro _ _ _ h; exact h) (Or.inl ⟨by rfl, ?_⟩) (by assumption) ?_
              rotate_left
              · (intro w hSw; (try dsimp only at hSw); go_simp; all_goals with_reducible rfl)
              (try simp only [Act.put, List.setIfInBounds_toArray, List.set_cons_zero, List.set_cons_succ])
              refine wpAnyH_take (i := 9) (v := ?_) (by rw [List.getElem?_toArray]; rfl) (by kernel_rfl) (by kernel_rfl) (by kernel_rfl) (by intro _ _ _ h; exact h) (Or.inl ⟨by rfl, ?_⟩) (by assumption) ?_
              rotate_left
              · (intro w hSw; (try dsimp only at hSw); go_simp; all_goals with_reducible rfl)
              (try simp only [Act.put, List.setIfInBounds_toArray, List.set_cons_zero, List.set_cons_succ])
              refine wpAnyH_take (i := 10) (v := ?_) (by rw [List.getElem?_toArray]; rfl) (by kernel_rfl) (by kernel_rfl) (by kernel_rfl) (by intro _ _ _ h; exact h) (Or.inl ⟨by rfl, ?_⟩) (by assumption) ?_
              rotate_left
              · (intro w hSw; (try dsimp only at hSw); go_simp; all_goals with_reducible rfl)
              (try simp only [Act.put, List.setIfInBounds_toArray, List.set_cons_zero, List.set_cons_succ])
              refine wpAnyH_take (i := 11) (v := ?_) (by rw [List.getElem?_toArray]; rfl) (by kernel_rfl) (by kernel_rfl) (by kernel_rfl) (by intro _ _ _ h; exact h) (Or.inl ⟨by rfl, ?_⟩) (by assumption) ?_
              rotate_left
              · (intro w hSw; (try dsimp only at hSw); go_simp; all_goals with_reducible rfl)
              (try simp only [Act.put, List.setIfInBounds_toArray, List.set_cons_zero, List.set_cons_succ])
              refine wpAnyH_take (i := 12) (v := undef) (by rw [List.getElem?_toArray]; rfl) (by kernel_rfl) (by kernel_rfl) (by kernel_rfl) (by intro _ _ _ h; exact h) (Or.inr ⟨by rfl, rfl⟩) (by assumption) ?_
              (try simp only [Act.put, List.setIfInBounds_toArray, List.set_cons_zero, List.set_cons_succ])
              refine wpAnyH_take (i := 13) (v := undef) (by rw [List.getElem?_toArray]; rfl) (by kernel_rfl) (by kernel_rfl) (by kernel_rfl) (by intro _ _ _ h; exact h) (Or.inr ⟨by rfl, rfl⟩) (by assumption) ?_
              (try simp only [Act.put, List.setIfInBounds_toArray, List.set_cons_zero, List.set_cons_succ])
              refine wpAnyH_take (i := 14) (v := undef) (by rw [List.getElem?_toArray]; rfl) (by kernel_rfl) (by kernel_rfl) (by kernel_rfl) (by intro _ _ _ h; exact h) (Or.inr ⟨by rfl, rfl⟩) (by assumption) ?_
              (try simp only [Act.put, List.setIfInBounds_toArray, List.set_cons_zero, List.set_cons_succ])
              refine wpAnyH_take (i := 15) (v := undef) (by rw [List.getElem?_toArray]; rfl) (by kernel_rfl) (by kernel_rfl) (by kernel_rfl) (by intro _ _ _ h; exact h) (Or.inr ⟨by rfl, rfl⟩) (by assumption) ?_
              (try simp only [Act.put, List.setIfInBounds_toArray, List.set_cons_zero, List.set_cons_succ])
              refine wpAnyH_take (i := 16) (v := undef) (by rw [List.getElem?_toArray]; rfl) (by kernel_rfl) (by kernel_rfl) (by kernel_rfl) (by intro _ _ _ h; exact h) (Or.inr ⟨by rfl, rfl⟩) (by assumption) ?_
              (try simp only [Act.put, List.setIfInBounds_toArray, List.set_cons_zero, List.set_cons_succ])
              refine wpAnyH_take (i := 17) (v := undef) (by rw [List.getElem?_toArray]; rfl) (by kernel_rfl) (by kernel_rfl) (by kernel_rfl) (by intro _ _ _ h; exact h) (Or.inr ⟨by rfl, rfl⟩) (by assumption) ?_
              (try simp only [Act.put, List.setIfInBounds_toArray, List.set_cons_zero, List.set_cons_succ])
              refine wpAnyH_take (i := 18) (v := undef) (by rw [List.getElem?_toArray]; rfl) (by kernel_rfl) (by kernel_rfl) (by kernel_rfl) (by intro _ _ _ h; exact h) (Or.inr ⟨by rfl, rfl⟩) (by assumption) ?_
              (try simp only [Act.put, List.setIfInBounds_toArray, List.set_cons_zero, List.set_cons_succ])
              refine wpAnyH_take (i := 19) (v := undef) (by rw [List.getElem?_toArray]; rfl) (by kernel_rfl) (by kernel_rfl) (by kernel_rfl) (by intro _ _ _ h; exact h) (Or.inr ⟨by rfl, rfl⟩) (by assumption) ?_
              (try simp only [Act.put, List.setIfInBounds_toArray, List.set_cons_zero, List.set_cons_succ])
              refine wpAnyH_take (i := 20) (v := undef) (by rw [List.getElem?_toArray]; rfl) (by kernel_rfl) (by kernel_rfl) (by kernel_rfl) (by intro _ _ _ h; exact h) (Or.inr ⟨by rfl, rfl⟩) (by assumption) ?_
              (try simp only [Act.put, List.setIfInBounds_toArray, List.set_cons_zero, List.set_cons_succ])
              refine wpAnyH_take (i := 21) (v := undef) (by rw [List.getElem?_toArray]; rfl) (by kernel_rfl) (by kernel_rfl) (by kernel_rfl) (by intro _ _ _ h; exact h) (Or.inr ⟨by rfl, rfl⟩) (by assumption) ?_
              (try simp only [Act.put, List.setIfInBounds_toArray, List.set_cons_zero, List.set_cons_succ])
              refine wpAnyH_take (i := 22) (v := ?_) (by rw [List.getElem?_toArray]; rfl) (by kernel_rfl) (by kernel_rfl) (by kernel_rfl) (by intro _ _ _ h; exact h) (Or.inl ⟨by rfl, ?_⟩) (by assumption) ?_
              rotate_left
              · (intro w hSw; (try dsimp only at hSw); go_simp; all_goals with_reducible rfl)
              (try simp only [Act.put, List.setIfInBounds_toArray, List.set_cons_zero, List.set_cons_succ])
              refine wpAnyH_take (i := 23) (v := ?_) (by rw [List.getElem?_toArray]; rfl) (by kernel_rfl) (by kernel_rfl) (by kernel_rfl) (by intro _ _ _ h; exact h) (Or.inl ⟨by rfl, ?_⟩) (by assumption) ?_
              rotate_left
              · (intro w hSw; (try dsimp only at hSw); go_simp; all_goals with_reducible rfl)
              (try simp only [Act.put, List.setIfInBounds_toArray, List.set_cons_zero, List.set_cons_succ])
              refine wpAnyH_done (by kernel_rfl) ?_ _
              go_wp2_with fail
              go_roundw
              case rel => exact ⟨k + 1, by omega, by go_num, TW⟩
              case measure => simp [intOf]; omega
          · have hkk : k = C.length := by omega
            subst hkk
            go_wp2_with fail
            go_ret
            exact ⟨rfl, TW.2.2⟩
      · have hki1 : decide ((k : Int) < 8) = false := by simp; omega
        have hm : K.length ≤ maxLen := max10 (by omega)
        have CC := fun (w' : World) (h : SrcC w' ap (K.length * 5) (MFPeer (gP K))) => implPeersCarried_w ap K.length c (gP K) x y cl 1000000000000 w' hm h
        have CS := fun (w' : World) (h : SrcC w' ap (K.length * 5) (MFPeer (gP K))) => specPeersCarried_any ap K.length c (gP K) x y cl 1000000000000 w' hm h
        have HH : Hid (∀ k, k < (caL (gP K) K.length x y cl 1000000000000).length → holdsI (gC (caL (gP K) K.length x y cl 1000000000000) k).2.1 (gC (caL (gP K) K.length x y cl 1000000000000) k).2.2 tl = true) := fun k hk => by
          rw [← HT.out.2] at hk ⊢
          rw [← HT.out.1]
          exact ca_truth HR1.out (by omega) HK.out hk
        have HA : Hid (∀ k, k + 1 < (caL (gP K) K.length x y cl 1000000000000).length → (gC (caL (gP K) K.length x y cl 1000000000000) k).1 < (gC (caL (gP K) K.length x y cl 1000000000000) (k + 1)).1) := fun k hk => ca_asc hk
        have hC9 := caL_len (gP K) K.length x y cl 1000000000000
        generalize caL (gP K) K.length x y cl 1000000000000 = C at *
        obtain ⟨o0, o1, o2, o3, o4, o5, o6, o7, o8⟩ := id PT.1
        obtain ⟨t0, t1, t2, t3, t4⟩ := id PT.2.1
        go_wp2_with fail
        refine (CC _ PT.2.2.2.1).mono ?_
        rintro e v5 ⟨v0, v1', rfl, O0, O1, _, hb⟩
        clear o0 o1 o2 o3 o4 o5 o6 o7 o8 t0 t1 t2 t3 t4
        replace PT := PT.below hb
        clear hb CC
        have TW : Two v5 wr.heap.size C v0 v1' := ⟨O0, O1⟩
        simp only [List.length_map] at O0 O1
        obtain ⟨o0, o1, o2, o3, o4, o5, o6, o7, o8⟩ := id PT.1
        obtain ⟨t0, t1, t2, t3, t4⟩ := id PT.2.1
        obtain ⟨av0, cv0, rfl⟩ := own_slice O0
        obtain ⟨av1, cv1, rfl⟩ := own_slice O1
        clear O0 O1
        go_wp2_with fail
        refine (CS _ PT.2.2.2.1).mono ?_
        rintro e v6 ⟨u0, u1, rfl, U0, U1, hb⟩
        clear o0 o1 o2 o3 o4 o5 o6 o7 o8 t0 t1 t2 t3 t4
        replace TW := TW.below hb
        have TT := (PT.below hb).2.1
        have BB := (PT.below hb).2.2.2.2
        clear hb CS PT
        simp only [List.length_map] at U0 U1
        obtain ⟨au0, cu0, rfl⟩ := own_slice U0
        obtain ⟨au1, cu1, rfl⟩ := own_slice U1
        clear U0 U1
        have LS0 : Ls w kT wr.heap.size tl cl C (.slice av0 C.length cv0) (.slice av1 C.length cv1) v6 := ⟨TW, TT, BB⟩
        generalize wr.heap.size = base at *
        clear TW TT BB
        go_wp2_with fail
        go_loopw [22] (fun i wr => ∃ k : Nat, k ≤ C.length ∧ i = .int .i64 k ∧ Ls w kT base tl cl C (.slice av0 C.length cv0) (.slice av1 C.length cv1) wr) (fun i _ => C.length - (intOf i).toNat)
        case atStart => exact ⟨0, Nat.zero_le _, rfl, LS0⟩
        case round =>
          clear LS0
          obtain ⟨k, hk, rfl, TW⟩ := hrel
          by_cases hlt : k < C.length
          · have hli : (k : Int) < (C.length : Int) := by omega
            obtain ⟨g, gc, g', gc', e0, e1, _, _, _, _, _⟩ := TW.1.at hlt
            injection e0 with e0a _ e0c
            injection e1 with e1a _ e1c
            subst e0a e0c e1a e1c
            have CH := fun (w' : World) => implHolds_v10 _ _ tl w' (HH.out k hlt)
            by_cases hpos : 0 < k
            · obtain ⟨kk, hkk⟩ : ∃ kk, k = kk + 1 := ⟨k - 1, by omega⟩
              have hge : decide ((gC C k).1 ≤ (gC C kk).1) = false := by
                have := HA.out kk (by omega)
                rw [hkk]
                exact decide_eq_false (by omega)
              have hkl : kk < C.length := by omega
              have hpi : (0 : Int) < (k : Int) := by omega
              have hk1 : (k : Int) - 1 = (kk : Int) := by omega
              have hw1 : IntKind.i64.wrap (kk : Int) = (kk : Int) := Go.IntWalk.i64_in _ ⟨by omega, by omega⟩
              have hkl' : (kk : Int) < (C.length : Int) := by omega
              clear hkk
              have LAY : Hid (∀ wq, Ls w kT base tl cl C (.slice (some ⟨g, 0, none⟩) C.length cv0) (.slice (some ⟨g', 0, none⟩) C.length cv1) wq → g < wq.heap.size ∧ g' < wq.heap.size ∧ wq.cell? ⟨g, k * 2, none⟩ = some (.int .i64 (gC C k).2.1) ∧ wq.cell? ⟨g, k * 2 + 1, none⟩ = some (.int .i64 (gC C k).2.2) ∧ wq.cell? ⟨g', k, none⟩ = some (.int .i64 (gC C k).1) ∧ wq.cell? ⟨g', kk, none⟩ = some (.int .i64 (gC C kk).1) ∧ wq.cell? ⟨kT, 0, none⟩ = some (.int .i64 tl) ∧ kT < wq.heap.size) := fun wq hq => by
                obtain ⟨a, c, a', c', e0, e1, h1, h2, h3, h4, h5⟩ := hq.1.at hlt
                obtain ⟨d, _, d', _, f0, f1, _, _, _, _, i5⟩ := hq.1.at hkl
                injection e0 with e0a _ _
                injection e1 with e1a _ _
                injection f0 with f0a _ _
                injection f1 with f1a _ _
                simp at e0a e1a f0a f1a
                subst e0a e1a f0a f1a
                exact ⟨h1, h2, h3, h4, h5, i5, hq.2.1.2.1, hq.2.1.1⟩
              generalize (gC C k).2.1 = cl0 at *
              generalize (gC C k).2.2 = ch0 at *
              generalize (gC C k).1 = id1 at *
              generalize (gC C kk).1 = id0 at *
              obtain ⟨hg, hg', q1, q2, q3, q4, t1, tk⟩ := LAY.out _ TW
              go_upto_region 28 with fail
              refine wp_region_held_drew (S := (fun w' => w'.cell? ⟨g, k * 2, none⟩ = some (.int .i64 cl0) ∧ w'.cell? ⟨g, k * 2 + 1, none⟩ = some (.int .i64 ch0) ∧ w'.cell? ⟨kT, 0, none⟩ = some (.int .i64 tl) ∧ w'.cell? ⟨g', k, none⟩ = some (.int .i64 id1) ∧ w'.cell? ⟨g', kk, none⟩ = some (.int .i64 id0))) (by kernel_rfl) ?_ (fun hHeld => ?_)
              · first | exact ⟨q1, q2, t1, q3, q4⟩ | (simp (maxDischargeDepth := 6) [go_sem, *]; done)
              clear hg hg' q1 q2 q3 q4 t1 tk
              replace TW := TW.drew
              generalize wr.drew = wr at *
              obtain ⟨hg, hg', q1, q2, q3, q4, t1, tk⟩ := LAY.out _ TW
              refine wpAnyH_take (i := 0) (v := ?_) (by rw [List.getElem?_toArray]; rfl) (by kernel_rfl) (by kernel_rfl) (by kernel_rfl) (by intro _ _ _ h; exact h) (Or.inl ⟨by rfl, ?_⟩) (by assumption) ?_
              rotate_left
              · (intro w hSw; (try dsimp only at hSw); go_simp; all_goals with_reducible rfl)
              (try simp only [Act.put, List.setIfInBounds_toArray, List.set_cons_zero, List.set_cons_succ])
              refine wpAnyH_take (i := 1) (v := ?_) (by rw [List.getElem?_toArray]; rfl) (by kernel_rfl) (by kernel_rfl) (by kernel_rfl) (by intro _ _ _ h; exact h) (Or.inl ⟨by rfl, ?_⟩) (by assumption) ?_
              rotate_left
              · (intro w hSw; (try dsimp only at hSw); go_simp; all_goals with_reducible rfl)
              (try simp only [Act.put, List.setIfInBounds_toArray, List.set_cons_zero, List.set_cons_succ])
              refine wpAnyH_take (i := 2) (v := ?_) (by rw [List.getElem?_toArray]; rfl) (by kernel_rfl) (by kernel_rfl) (by kernel_rfl) (by intro _ _ _ h; exact h) (Or.inl ⟨by rfl, ?_⟩) (by assumption) ?_
              rotate_left
              · (intro w hSw; (try dsimp only at hSw); go_simp; all_goals with_reducible rfl)
              (try simp only [Act.put, List.setIfInBounds_toArray, List.set_cons_zero, List.set_cons_succ])
              refine wpAnyH_take (i := 3) (v := ?_) (by rw [List.getElem?_toArray]; rfl) (by kernel_rfl) (by kernel_rfl) (by kernel_rfl) (by intro _ _ _ h; exact h) (Or.inl ⟨by rfl, ?_⟩) (by assumption) ?_
              rotate_left
              · (intro w hSw; (try dsimp only at hSw); go_simp; all_goals with_reducible rfl)
              (try simp only [Act.put, List.setIfInBounds_toArray, List.set_cons_zero, List.set_cons_succ])
              refine wpAnyH_take (i := 4) (v := ?_) (by rw [List.getElem?_toArray]; rfl) (by kernel_rfl) (by kernel_rfl) (by kernel_rfl) (by intro _ _ _ h; exact h) (Or.inl ⟨by rfl, ?_⟩) (by assumption) ?_
              rotate_left
              · (intro w hSw; (try dsimp only at hSw); go_simp; all_goals with_reducible rfl)
              (try simp only [Act.put, List.setIfInBounds_toArray, List.set_cons_zero, List.set_cons_succ])
              refine wpAnyH_take (i := 5) (v := ?_) (by rw [List.getElem?_toArray]; rfl) (by kernel_rfl) (by kernel_rfl) (by kernel_rfl) (by intro _ _ _ h; exact h) (Or.inl ⟨by rfl, ?_⟩) (by assumption) ?_
              rotate_left
              · (intro w hSw; (try dsimp only at hSw); go_simp; all_goals with_reducible rfl)
              (try simp only [Act.put, List.setIfInBounds_toArray, List.set_cons_zero, List.set_cons_succ])
              refine wpAnyH_ready (rs := [6]) (by kernel_rfl) (by simp) ?_
              refine AllReadyH.cons (by rw [List.getElem?_toArray]; rfl) (fun K hK => ?_) AllReadyH.nil
              go_simp
              refine (CH _).mono ?_; rintro e v9 ⟨rfl, hb⟩; clear hg hg' q1 q2 q3 q4 t1 tk; (replace TW := TW.below hb); clear hb; obtain ⟨hg, hg', q1, q2, q3, q4, t1, tk⟩ := LAY.out _ TW
              (try go_wp2_with fail)
              refine hK.out _ _ ?_ (fun hHeld => ?_)
              · first | exact ⟨q1, q2, t1, q3, q4⟩ | (simp (maxDischargeDepth := 6) [go_sem, *]; done)
              clear hK K
              (try simp only [Act.put, List.setIfInBounds_toArray, List.set_cons_zero, List.set_cons_succ])
              refine wpAnyH_take (i := 7) (v := ?_) (by rw [List.getElem?_toArray]; rfl) (by kernel_rfl) (by kernel_rfl) (by kernel_rfl) (by intro _ _ _ h; exact h) (Or.inl ⟨by rfl, ?_⟩) (by assumption) ?_
              rotate_left
              · (intro w hSw; (try dsimp only at hSw); go_simp; all_goals with_reducible rfl)
              (try simp only [Act.put, List.setIfInBounds_toArray, List.set_cons_zero, List.set_cons_succ])
              refine wpAnyH_take (i := 8) (v := ?_) (by rw [List.getElem?_toArray]; rfl) (by kernel_rfl) (by kernel_rfl) (by kernel_rfl) (by intro _ _ _ h; exact h) (Or.inl ⟨by rfl, ?_⟩) (by assumption) ?_
              rotate_left
              · (intro w hSw; (try dsimp only at hSw); go_simp; all_goals with_reducible rfl)
              (try simp only [Act.put, List.setIfInBounds_toArray, List.set_cons_zero, List.set_cons_succ])
              refine wpAnyH_take (i := 9) (v := ?_) (by rw [List.getElem?_toArray]; rfl) (by kernel_rfl) (by kernel_rfl) (by kernel_rfl) (by intro _ _ _ h; exact h) (Or.inl ⟨by rfl, ?_⟩) (by assumption) ?_
              rotate_left
              · (intro w hSw; (try dsimp only at hSw); go_simp; all_goals with_reducible rfl)
              (try simp only [Act.put, List.setIfInBounds_toArray, List.set_cons_zero, List.set_cons_succ])
              refine wpAnyH_take (i := 10) (v := ?_) (by rw [List.getElem?_toArray]; rfl) (by kernel_rfl) (by kernel_rfl) (by kernel_rfl) (by intro _ _ _ h; exact h) (Or.inl ⟨by rfl, ?_⟩) (by assumption) ?_
              rotate_left
              · (intro w hSw; (try dsimp only at hSw); go_simp; all_goals with_reducible rfl)
              (try simp only [Act.put, List.setIfInBounds_toArray, List.set_cons_zero, List.set_cons_succ])
              refine wpAnyH_take (i := 11) (v := ?_) (by rw [List.getElem?_toArray]; rfl) (by kernel_rfl) (by kernel_rfl) (by kernel_rfl) (by intro _ _ _ h; exact h) (Or.inl ⟨by rfl, ?_⟩) (by assumption) ?_
              rotate_left
              · (intro w hSw; (try dsimp only at hSw); go_simp; all_goals with_reducible rfl)
              (try simp only [Act.put, List.setIfInBounds_toArray, List.set_cons_zero, List.set_cons_succ])
              refine wpAnyH_take (i := 12) (v := ?_) (by rw [List.getElem?_toArray]; rfl) (by kernel_rfl) (by kernel_rfl) (by kernel_rfl) (by intro _ _ _ h; exact h) (Or.inl ⟨by rfl, ?_⟩) (by assumption) ?_
              rotate_left
              · (intro w hSw; (try dsimp only at hSw); go_simp; all_goals with_reducible rfl)
              (try simp only [Act.put, List.setIfInBounds_toArray, List.set_cons_zero, List.set_cons_succ])
              refine wpAnyH_take (i := 13) (v := ?_) (by rw [List.getElem?_toArray]; rfl) (by kernel_rfl) (by kernel_rfl) (by kernel_rfl) (by intro _ _ _ h; exact h) (Or.inl ⟨by rfl, ?_⟩) (by assumption) ?_
              rotate_left
              · (intro w hSw; (try dsimp only at hSw); go_simp; all_goals with_reducible rfl)
              (try simp only [Act.put, List.setIfInBounds_toArray, List.set_cons_zero, List.set_cons_succ])
              refine wpAnyH_take (i := 14) (v := ?_) (by rw [List.getElem?_toArray]; rfl) (by kernel_rfl) (by kernel_rfl) (by kernel_rfl) (by intro _ _ _ h; exact h) (Or.inl ⟨by rfl, ?_⟩) (by assumption) ?_
              rotate_left
              · (intro w hSw; (try dsimp only at hSw); go_simp; all_goals with_reducible rfl)
              (try simp only [Act.put, List.setIfInBounds_toArray, List.set_cons_zero, List.set_cons_succ])
              refine wpAnyH_take (i := 15) (v := ?_) (by rw [List.getElem?_toArray]; rfl) (by kernel_rfl) (by kernel_rfl) (by kernel_rfl) (by intro _ _ _ h; exact h) (Or.inl ⟨by rfl, ?_⟩) (by assumption) ?_
              rotate_left
              · (intro w hSw; (try dsimp only at hSw); go_simp; all_goals with_reducible rfl)
              (try simp only [Act.put, List.setIfInBounds_toArray, List.set_cons_zero, List.set_cons_succ])
              refine wpAnyH_take (i := 16) (v := ?_) (by rw [List.getElem?_toArray]; rfl) (by kernel_rfl) (by kernel_rfl) (by kernel_rfl) (by intro _ _ _ h; exact h) (Or.inl ⟨by rfl, ?_⟩) (by assumption) ?_
              rotate_left
              · (intro w hSw; (try dsimp only at hSw); go_simp; all_goals with_reducible rfl)
              (try simp only [Act.put, List.setIfInBounds_toArray, List.set_cons_zero, List.set_cons_succ])
              refine wpAnyH_take (i := 17) (v := ?_) (by rw [List.getElem?_toArray]; rfl) (by kernel_rfl) (by kernel_rfl) (by kernel_rfl) (by intro _ _ _ h; exact h) (Or.inl ⟨by rfl, ?_⟩) (by assumption) ?_
              rotate_left
              · (intro w hSw; (try dsimp only at hSw); go_simp; all_goals with_reducible rfl)
              (try simp only [Act.put, List.setIfInBounds_toArray, List.set_cons_zero, List.set_cons_succ])
              refine wpAnyH_take (i := 18) (v := ?_) (by rw [List.getElem?_toArray]; rfl) (by kernel_rfl) (by kernel_rfl) (by kernel_rfl) (by intro _ _ _ h; exact h) (Or.inl ⟨by rfl, ?_⟩) (by assumption) ?_
              rotate_left
              · (intro w hSw; (try dsimp only at hSw); go_simp; all_goals with_reducible rfl)
              (try simp only [Act.put, List.setIfInBounds_toArray, List.set_cons_zero, List.set_cons_succ])
              refine wpAnyH_take (i := 19) (v := ?_) (by rw [List.getElem?_toArray]; rfl) (by kernel_rfl) (by kernel_rfl) (by kernel_rfl) (by intro _ _ _ h; exact h) (Or.inl ⟨by rfl, ?_⟩) (by assumption) ?_
              rotate_left
              · (intro w hSw; (try dsimp only at hSw); go_simp; all_goals with_reducible rfl)
              (try simp only [Act.put, List.setIfInBounds_toArray, List.set_cons_zero, List.set_cons_succ])
              refine wpAnyH_take (i := 20) (v := ?_) (by rw [List.getElem?_toArray]; rfl) (by kernel_rfl) (by kernel_rfl) (by kernel_rfl) (by intro _ _ _ h; exact h) (Or.inl ⟨by rfl, ?_⟩) (by assumption) ?_
              rotate_left
              · (intro w hSw; (try dsimp only at hSw); go_simp; all_goals with_reducible rfl)
              (try simp only [Act.put, List.setIfInBounds_toArray, List.set_cons_zero, List.set_cons_succ])
              refine wpAnyH_take (i := 21) (v := ?_) (by rw [List.getElem?_toArray]; rfl) (by kernel_rfl) (by kernel_rfl) (by kernel_rfl) (by intro _ _ _ h; exact h) (Or.inl ⟨by rfl, ?_⟩) (by assumption) ?_
              rotate_left
              · (intro w hSw; (try dsimp only at hSw); go_simp; all_goals with_reducible rfl)
              (try simp only [Act.put, List.setIfInBounds_toArray, List.set_cons_zero, List.set_cons_succ])
              (try simp only [hge])
              refine wpAnyH_take (i := 22) (v := ?_) (by rw [List.getElem?_toArray]; rfl) (by kernel_rfl) (by kernel_rfl) (by kernel_rfl) (by intro _ _ _ h; exact h) (Or.inl ⟨by rfl, ?_⟩) (by assumption) ?_
              rotate_left
              · (intro w hSw; (try dsimp only at hSw); go_simp; all_goals with_reducible rfl)
              (try simp only [Act.put, List.setIfInBounds_toArray, List.set_cons_zero, List.set_cons_succ])
              refine wpAnyH_take (i := 23) (v := ?_) (by rw [List.getElem?_toArray]; rfl) (by kernel_rfl) (by kernel_rfl) (by kernel_rfl) (by intro _ _ _ h; exact h) (Or.inl ⟨by rfl, ?_⟩) (by assumption) ?_
              rotate_left
              · (intro w hSw; (try dsimp only at hSw); go_simp; all_goals with_reducible rfl)
              (try simp only [Act.put, List.setIfInBounds_toArray, List.set_cons_zero, List.set_cons_succ])
              refine wpAnyH_done (by kernel_rfl) ?_ _
              go_wp2_with fail
              go_roundw
              case rel => exact ⟨k + 1, by omega, by go_num, TW⟩
              case measure => simp [intOf]; omega
            · have hk0 : k = 0 := by omega
              have hpi : decide ((0 : Int) < (k : Int)) = false := by simp; omega
              have LAY : Hid (∀ wq, Ls w kT base tl cl C (.slice (some ⟨g, 0, none⟩) C.length cv0) (.slice (some ⟨g', 0, none⟩) C.length cv1) wq → g < wq.heap.size ∧ g' < wq.heap.size ∧ wq.cell? ⟨g, k * 2, none⟩ = some (.int .i64 (gC C k).2.1) ∧ wq.cell? ⟨g, k * 2 + 1, none⟩ = some (.int .i64 (gC C k).2.2) ∧ wq.cell? ⟨g', k, none⟩ = some (.int .i64 (gC C k).1) ∧ wq.cell? ⟨kT, 0, none⟩ = some (.int .i64 tl) ∧ kT < wq.heap.size) := fun wq hq => by
                obtain ⟨a, c, a', c', e0, e1, h1, h2, h3, h4, h5⟩ := hq.1.at hlt
                injection e0 with e0a _ _
                injection e1 with e1a _ _
                simp at e0a e1a
                subst e0a e1a
                exact ⟨h1, h2, h3, h4, h5, hq.2.1.2.1, hq.2.1.1⟩
              clear hk0
              generalize (gC C k).2.1 = cl0 at *
              generalize (gC C k).2.2 = ch0 at *
              generalize (gC C k).1 = id1 at *
              obtain ⟨hg, hg', q1, q2, q3, t1, tk⟩ := LAY.out _ TW
              go_upto_region 28 with fail
              refine wp_region_held_drew (S := (fun w' => w'.cell? ⟨g, k * 2, none⟩ = some (.int .i64 cl0) ∧ w'.cell? ⟨g, k * 2 + 1, none⟩ = some (.int .i64 ch0) ∧ w'.cell? ⟨kT, 0, none⟩ = some (.int .i64 tl) ∧ w'.cell? ⟨g', k, none⟩ = some (.int .i64 id1))) (by kernel_rfl) ?_ (fun hHeld => ?_)
              · first | exact ⟨q1, q2, t1, q3⟩ | (simp (maxDischargeDepth := 6) [go_sem, *]; done)
              clear hg hg' q1 q2 q3 t1 tk
              replace TW := TW.drew
              generalize wr.drew = wr at *
              obtain ⟨hg, hg', q1, q2, q3, t1, tk⟩ := LAY.out _ TW
              refine wpAnyH_take (i := 0) (v := ?_) (by rw [List.getElem?_toArray]; rfl) (by kernel_rfl) (by kernel_rfl) (by kernel_rfl) (by intro _ _ _ h; exact h) (Or.inl ⟨by rfl, ?_⟩) (by assumption) ?_
              rotate_left
              · (intro w hSw; (try dsimp only at hSw); go_simp; all_goals with_reducible rfl)
              (try simp only [Act.put, List.setIfInBounds_toArray, List.set_cons_zero, List.set_cons_succ])
              refine wpAnyH_take (i := 1) (v := ?_) (by rw [List.getElem?_toArray]; rfl) (by kernel_rfl) (by kernel_rfl) (by kernel_rfl) (by intro _ _ _ h; exact h) (Or.inl ⟨by rfl, ?_⟩) (by assumption) ?_
              rotate_left
              · (intro w hSw; (try dsimp only at hSw); go_simp; all_goals with_reducible rfl)
              (try simp only [Act.put, List.setIfInBounds_toArray, List.set_cons_zero, List.set_cons_succ])
              refine wpAnyH_take (i := 2) (v := ?_) (by rw [List.getElem?_toArray]; rfl) (by kernel_rfl) (by kernel_rfl) (by kernel_rfl) (by intro _ _ _ h; exact h) (Or.inl ⟨by rfl, ?_⟩) (by assumption) ?_
              rotate_left
              · (intro w hSw; (try dsimp only at hSw); go_simp; all_goals with_reducible rfl)
              (try simp only [Act.put, List.setIfInBounds_toArray, List.set_cons_zero, List.set_cons_succ])
              refine wpAnyH_take (i := 3) (v := ?_) (by rw [List.getElem?_toArray]; rfl) (by kernel_rfl) (by kernel_rfl) (by kernel_rfl) (by intro _ _ _ h; exact h) (Or.inl ⟨by rfl, ?_⟩) (by assumption) ?_
              rotate_left
              · (intro w hSw; (try dsimp only at hSw); go_simp; all_goals with_reducible rfl)
              (try simp only [Act.put, List.setIfInBounds_toArray, List.set_cons_zero, List.set_cons_succ])
              refine wpAnyH_take (i := 4) (v := ?_) (by rw [List.getElem?_toArray]; rfl) (by kernel_rfl) (by kernel_rfl) (by kernel_rfl) (by intro _ _ _ h; exact h) (Or.inl ⟨by rfl, ?_⟩) (by assumption) ?_
              rotate_left
              · (intro w hSw; (try dsimp only at hSw); go_simp; all_goals with_reducible rfl)
              (try simp only [Act.put, List.setIfInBounds_toArray, List.set_cons_zero, List.set_cons_succ])
              refine wpAnyH_take (i := 5) (v := ?_) (by rw [List.getElem?_toArray]; rfl) (by kernel_rfl) (by kernel_rfl) (by kernel_rfl) (by intro _ _ _ h; exact h) (Or.inl ⟨by rfl, ?_⟩) (by assumption) ?_
              rotate_left
              · (intro w hSw; (try dsimp only at hSw); go_simp; all_goals with_reducible rfl)
              (try simp only [Act.put, List.setIfInBounds_toArray, List.set_cons_zero, List.set_cons_succ])
              refine wpAnyH_ready (rs := [6]) (by kernel_rfl) (by simp) ?_
              refine AllReadyH.cons (by rw [List.getElem?_toArray]; rfl) (fun K hK => ?_) AllReadyH.nil
              go_simp
              refine (CH _).mono ?_; rintro e v9 ⟨rfl, hb⟩; clear hg hg' q1 q2 q3 t1 tk; (replace TW := TW.below hb); clear hb; obtain ⟨hg, hg', q1, q2, q3, t1, tk⟩ := LAY.out _ TW
              (try go_wp2_with fail)
              refine hK.out _ _ ?_ (fun hHeld => ?_)
              · first | exact ⟨q1, q2, t1, q3⟩ | (simp (maxDischargeDepth := 6) [go_sem, *]; done)
              clear hK K
              (try simp only [Act.put, List.setIfInBounds_toArray, List.set_cons_zero, List.set_cons_succ])
              refine wpAnyH_take (i := 7) (v := ?_) (by rw [List.getElem?_toArray]; rfl) (by kernel_rfl) (by kernel_rfl) (by kernel_rfl) (by intro _ _ _ h; exact h) (Or.inl ⟨by rfl, ?_⟩) (by assumption) ?_
              rotate_left
              · (intro w hSw; (try dsimp only at hSw); go_simp; all_goals with_reducible rfl)
              (try simp only [Act.put, List.setIfInBounds_toArray, List.set_cons_zero, List.set_cons_succ])
              refine wpAnyH_take (i := 8) (v := ?_) (by rw [List.getElem?_toArray]; rfl) (by kernel_rfl) (by kernel_rfl) (by kernel_rfl) (by intro _ _ _ h; exact h) (Or.inl ⟨by rfl, ?_⟩) (by assumption) ?_
              rotate_left
              · (intro w hSw; (try dsimp only at hSw); go_simp; all_goals with_reducible rfl)
              (try simp only [Act.put, List.setIfInBounds_toArray, List.set_cons_zero, List.set_cons_succ])
              refine wpAnyH_take (i := 9) (v := ?_) (by rw [List.getElem?_toArray]; rfl) (by kernel_rfl) (by kernel_rfl) (by kernel_rfl) (by intro _ _ _ h; exact h) (Or.inl ⟨by rfl, ?_⟩) (by assumption) ?_
              rotate_left
              · (intro w hSw; (try dsimp only at hSw); go_simp; all_goals with_reducible rfl)
              (try simp only [Act.put, List.setIfInBounds_toArray, List.set_cons_zero, List.set_cons_succ])
              refine wpAnyH_take (i := 10) (v := ?_) (by rw [List.getElem?_toArray]; rfl) (by kernel_rfl) (by kernel_rfl) (by kernel_rfl) (by intro _ _ _ h; exact h) (Or.inl ⟨by rfl, ?_⟩) (by assumption) ?_
              rotate_left
              · (intro w hSw; (try dsimp only at hSw); go_simp; all_goals with_reducible rfl)
              (try simp only [Act.put, List.setIfInBounds_toArray, List.set_cons_zero, List.set_cons_succ])
              refine wpAnyH_take (i := 11) (v := ?_) (by rw [List.getElem?_toArray]; rfl) (by kernel_rfl) (by kernel_rfl) (by kernel_rfl) (by intro _ _ _ h; exact h) (Or.inl ⟨by rfl, ?_⟩) (by assumption) ?_
              rotate_left
              · (intro w hSw; (try dsimp only at hSw); go_simp; all_goals with_reducible rfl)
              (try simp only [Act.put, List.setIfInBounds_toArray, List.set_cons_zero, List.set_cons_succ])
              refine wpAnyH_take (i := 12) (v := undef) (by rw [List.getElem?_toArray]; rfl) (by kernel_rfl) (by kernel_rfl) (by kernel_rfl) (by intro _ _ _ h; exact h) (Or.inr ⟨by rfl, rfl⟩) (by assumption) ?_
              (try simp only [Act.put, List.setIfInBounds_toArray, List.set_cons_zero, List.set_cons_succ])
              refine wpAnyH_take (i := 13) (v := undef) (by rw [List.getElem?_toArray]; rfl) (by kernel_rfl) (by kernel_rfl) (by kernel_rfl) (by intro _ _ _ h; exact h) (Or.inr ⟨by rfl, rfl⟩) (by assumption) ?_
              (try simp only [Act.put, List.setIfInBounds_toArray, List.set_cons_zero, List.set_cons_succ])
              refine wpAnyH_take (i := 14) (v := undef) (by rw [List.getElem?_toArray]; rfl) (by kernel_rfl) (by kernel_rfl) (by kernel_rfl) (by intro _ _ _ h; exact h) (Or.inr ⟨by rfl, rfl⟩) (by assumption) ?_
              (try simp only [Act.put, List.setIfInBounds_toArray, List.set_cons_zero, List.set_cons_succ])
              refine wpAnyH_take (i := 15) (v := undef) (by rw [List.getElem?_toArray]; rfl) (by kernel_rfl) (by kernel_rfl) (by kernel_rfl) (by intro _ _ _ h; exact h) (Or.inr ⟨by rfl, rfl⟩) (by assumption) ?_
              (try simp only [Act.put, List.setIfInBounds_toArray, List.set_cons_zero, List.set_cons_succ])
              refine wpAnyH_take (i := 16) (v := undef) (by rw [List.getElem?_toArray]; rfl) (by kernel_rfl) (by kernel_rfl) (by kernel_rfl) (by intro _ _ _ h; exact h) (Or.inr ⟨by rfl, rfl⟩) (by assumption) ?_
              (try simp only [Act.put, List.setIfInBounds_toArray, List.set_cons_zero, List.set_cons_succ])
              refine wpAnyH_take (i := 17) (v := undef) (by rw [List.getElem?_toArray]; rfl) (by kernel_rfl) (by kernel_rfl) (by kernel_rfl) (by intro _ _ _ h; exact h) (Or.inr ⟨by rfl, rfl⟩) (by assumption) ?_
              (try simp only [Act.put, List.setIfInBounds_toArray, List.set_cons_zero, List.set_cons_succ])
              refine wpAnyH_take (i := 18) (v := undef) (by rw [List.getElem?_toArray]; rfl) (by kernel_rfl) (by kernel_rfl) (by kernel_rfl) (by intro _ _ _ h; exact h) (Or.inr ⟨by rfl, rfl⟩) (by assumption) ?_
              (try simp only [Act.put, List.setIfInBounds_toArray, List.set_cons_zero, List.set_cons_succ])
              refine wpAnyH_take (i := 19) (v := undef) (by rw [List.getElem?_toArray]; rfl) (by kernel_rfl) (by kernel_rfl) (by kernel_rfl) (by intro _ _ _ h; exact h) (Or.inr ⟨by rfl, rfl⟩) (by assumption) ?_
              (try simp only [Act.put, List.setIfInBounds_toArray, List.set_cons_zero, List.set_cons_succ])
              refine wpAnyH_take (i := 20) (v := undef) (by rw [List.getElem?_toArray]; rfl) (by kernel_rfl) (by kernel_rfl) (by kernel_rfl) (by intro _ _ _ h; exact h) (Or.inr ⟨by rfl, rfl⟩) (by assumption) ?_
              (try simp only [Act.put, List.setIfInBounds_toArray, List.set_cons_zero, List.set_cons_succ])
              refine wpAnyH_take (i := 21) (v := undef) (by rw [List.getElem?_toArray]; rfl) (by kernel_rfl) (by kernel_rfl) (by kernel_rfl) (by intro _ _ _ h; exact h) (Or.inr ⟨by rfl, rfl⟩) (by assumption) ?_
              (try simp only [Act.put, List.setIfInBounds_toArray, List.set_cons_zero, List.set_cons_succ])
              refine wpAnyH_take (i := 22) (v := ?_) (by rw [List.getElem?_toArray]; rfl) (by kernel_rfl) (by kernel_rfl) (by kernel_rfl) (by intro _ _ _ h; exact h) (Or.inl ⟨by rfl, ?_⟩) (by assumption) ?_
              rotate_left
              · (intro w hSw; (try dsimp only at hSw); go_simp; all_goals with_reducible rfl)
              (try simp only [Act.put, List.setIfInBounds_toArray, List.set_cons_zero, List.set_cons_succ])
              refine wpAnyH_take (i := 23) (v := ?_) (by rw [List.getElem?_toArray]; rfl) (by kernel_rfl) (by kernel_rfl) (by kernel_rfl) (by intro _ _ _ h; exact h) (Or.inl ⟨by rfl, ?_⟩) (by assumption) ?_
              rotate_left
              · (intro w hSw; (try dsimp only at hSw); go_simp; all_goals with_reducible rfl)
              (try simp only [Act.put, List.setIfInBounds_toArray, List.set_cons_zero, List.set_cons_succ])
              refine wpAnyH_done (by kernel_rfl) ?_ _
              go_wp2_with fail
              go_roundw
              case rel => exact ⟨k + 1, by omega, by go_num, TW⟩
              case measure => simp [intOf]; omega
          · have hkk : k = C.length := by omega
            subst hkk
            go_wp2_with fail
            go_ret
            exact ⟨rfl, TW.2.2⟩
end Go.Proofs.Ytkeijldfblgeaaa
