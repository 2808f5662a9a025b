/- Contracts of JoinMsgs. -/
import Derived.Test.YtbflhhifkhoapaaJ2
import Derived.Test.YtbflhhifkhoapaaG14
import Derived.Test.YtbflhhifkhoapaaG15
import Derived.Deep.DeepCutAuto
import Derived.WalkKit
import Derived.WalkSpells
import Derived.WalkLawsBesides
import Derived.Deep.RegionHeld
namespace Go.Proofs.Ytbflhhifkhoapaa
open Go.RowKit
set_option linter.unusedVariables false
def pkL (M : MT) : List Int := packL M.1 M.2.1 M.2.2.1 M.2.2.2.1 M.2.2.2.2.1 M.2.2.2.2.2.1 M.2.2.2.2.2.2.1 M.2.2.2.2.2.2.2
def jn (M : Nat → MT) : Nat → List Int
  | 0 => []
  | n + 1 => jn M n ++ putL (pkL (M n)).length ++ pkL (M n)
def okN (M : Nat → MT) : Nat → Bool
  | 0 => true
  | n + 1 => okN M n && msgT (M n)
def jB (M : Nat → MT) (n : Nat) : Bool := decide (n ≤ 40) && okN M n
def jR (M : Nat → MT) (n : Nat) : List Int := if jB M n = true then jn M n else []
theorem okN_no {M : Nat → MT} {k : Nat} (h : msgT (M k) = false) : ∀ n, k < n → okN M n = false
  | 0, hn => absurd hn (Nat.not_lt_zero _)
  | n + 1, hn => by
    rcases Nat.lt_succ_iff_lt_or_eq.1 hn with h1 | h1
    · simp [okN, okN_no h n h1]
    · subst h1; simp [okN, h]
theorem pkL_short {M : MT} (h : msgT M = true) : (pkL M).length ≤ 100 :=
  Nat.le_trans (Nat.le_of_eq (congrArg List.length (show pkL M = packR M.1 M.2.1 M.2.2.1 M.2.2.2.1 M.2.2.2.2.1 M.2.2.2.2.2.1 M.2.2.2.2.2.2.1 M.2.2.2.2.2.2.2 from (if_pos h).symm))) (packR_short M.1 M.2.1 M.2.2.1 M.2.2.2.1 M.2.2.2.2.1 M.2.2.2.2.2.1 M.2.2.2.2.2.2.1 M.2.2.2.2.2.2.2)
theorem jn_len {M : Nat → MT} : ∀ {n : Nat}, okN M n = true → (jn M n).length ≤ 110 * n
  | 0, _ => by simp [jn]
  | n + 1, h => by
    simp only [okN, Bool.and_eq_true] at h
    have a := jn_len h.1
    have b := pkL_short h.2
    have c := putL_len ((pkL (M n)).length : Int)
    simp only [jn, List.length_append]
    omega
theorem ownB_nil (w : World) (base : Nat) : w.ownsRow base 5 1 (.slice none 0 0) ([] : List Int).length (bts []) := World.ownsRow_nil w base _ _
theorem ownB_new (w : World) (base : Nat) (hb : base ≤ w.heap.size) : (w.alloc (.cells #[] 5)).ownsRow base 5 1 (.slice (some ⟨w.heap.size, 0, none⟩) 0 0) ([] : List Int).length (bts []) := World.ownsRow_made w #[] 0 hb (by simp [maxLen]) (by simp)
theorem jR_no {M : Nat → MT} {n : Nat} (h : jB M n = false) : jR M n = [] := by rw [jR, if_neg (by rw [h]; decide)]
theorem jR_ok {M : Nat → MT} {n : Nat} (h : jB M n = true) : jR M n = jn M n := by rw [jR, if_pos h]
theorem jB_bad {M : Nat → MT} {k n : Nat} (h : msgT (M k) = false) (hk : k < n) : jB M n = false := by rw [jB, okN_no h n hk, Bool.and_false]
theorem jB_ok {M : Nat → MT} {n : Nat} (h : okN M n = true) (hn : n ≤ 40) : jB M n = true := by rw [jB, h, decide_eq_true hn]; rfl
theorem packL_ne (k fr tu no lo hi sl : Int) (s : ByteArray) : packL k fr tu no lo hi sl s ≠ [] := by
  intro e
  have q := congrArg List.length e
  simp [packL, addChk, packB] at q
set_option maxHeartbeats 1000000 in
theorem specJoinMsgs_long (a : Option Addr) (n c : Nat) (M : Nat → MT) (w : World) (hm : n ≤ maxLen) (h : 40 < n) :
    Calls Try.prog 20 #[.slice a n c] w fun e w' => ∃ v : Value, e = .returned (.tuple #[v, .bool (jB M n)]) ∧ w'.ownsRow w.heap.size 5 1 v (jR M n).length (bts (jR M n)) ∧ Below w.heap.size w w' := by
  unfold maxLen at hm
  have hB : jB M n = false := by rw [jB, decide_eq_false (by omega)]; rfl
  have hi : (40 : Int) < (n : Int) := by omega
  go_enter Try.func20, Try.ntmps20
  go_wp2_with fail
  exact bodyPost_ret (v := .tuple #[.slice (some ⟨w.heap.size, 0, none⟩) 0 0, .bool false]) (by simp [results, Try.results20, go_sem]) rfl ⟨_, by first | rfl | rw [hB], by rw [jR_no hB]; exact ownB_new w _ (Nat.le_refl _), Below.nw _ _⟩
set_option maxHeartbeats 1000000 in
theorem specJoinMsgs_zero (a : Option Addr) (c : Nat) (M : Nat → MT) (w : World) :
    Calls Try.prog 20 #[.slice a 0 c] w fun e w' => ∃ v : Value, e = .returned (.tuple #[v, .bool (jB M 0)]) ∧ w'.ownsRow w.heap.size 5 1 v (jR M 0).length (bts (jR M 0)) ∧ Below w.heap.size w w' := by
  have hB : jB M 0 = true := rfl
  go_enter Try.func20, Try.ntmps20
  go_wp2_with fail
  go_loopw [4, 5] (fun v i wr => i = .int .i64 0 ∧ v = .slice (some ⟨w.heap.size, 0, none⟩) 0 0 ∧ w.alloc (.cells #[] 5) = wr) (fun _ i _ => 0)
  case atStart => exact ⟨rfl, rfl, by first | rfl | trivial⟩
  case round =>
    obtain ⟨rfl, rfl, rfl⟩ := hrel
    go_wp2_with fail
    exact bodyPost_ret (v := .tuple #[.slice (some ⟨w.heap.size, 0, none⟩) 0 0, .bool true]) (by simp [results, Try.results20, go_sem]) rfl ⟨_, by first | rfl | rw [hB], by rw [jR_ok hB]; exact ownB_new w _ (Nat.le_refl _), Below.nw _ _⟩
set_option maxHeartbeats 8000000 in
theorem specJoinMsgs_some (b off n c : Nat) (M : Nat → MT) (w : World) (hn : n ≤ 40) (hf : Cs w b off (n * 8) (MFMsg M)) (hs : ∀ i, i < n → ((M i).2.2.2.2.2.2.2).size ≤ 1048576) :
    Calls Try.prog 20 #[.slice (some ⟨b, off, none⟩) n c] w fun e w' => ∃ v : Value, e = .returned (.tuple #[v, .bool (jB M n)]) ∧ w'.ownsRow w.heap.size 5 1 v (jR M n).length (bts (jR M n)) ∧ Below w.heap.size w w' := by
  obtain ⟨i0, hi, hz0, hz1, hz2⟩ := info_parts infoByte
  have HS : Hid (∀ i, i < n → ((M i).2.2.2.2.2.2.2).size ≤ 1048576) := hs
  clear hs
  have h40 : ¬ (40 : Int) < (n : Int) := by omega
  have A0 := ownB_new w w.heap.size (Nat.le_refl _)
  go_enter Try.func20, Try.ntmps20
  go_wp2_with fail
  go_loopw [4, 5] (fun v i wr => ∃ k : Nat, k ≤ n ∧ i = .int .i64 k ∧ okN M k = true ∧ wr.ownsRow w.heap.size 5 1 v (jn M k).length (bts (jn M k)) ∧ Below w.heap.size w wr) (fun _ i _ => n - (intOf i).toNat)
  case atStart => exact ⟨0, Nat.zero_le _, rfl, rfl, A0, Below.nw _ _⟩
  case round =>
    obtain ⟨k, hk, rfl, hok, O, hB⟩ := hrel
    have HOK : Hid (okN M k = true) := hok
    have hjl := jn_len hok
    have hol : ∀ g, (Value.ownBlock u4 = some g) → g < wr.heap.size := fun g hg => (O.lt g hg).2
    have hBw : w.heap.size ≤ wr.heap.size := hB.size
    clear hok A0
    by_cases hlt : k < n
    · obtain ⟨x0, x1, x2, x3, x4, x5, x6, x7, hM⟩ := tupMsg M k
      obtain ⟨c0, c1, c2, c3, c4, c5, c6, c7⟩ := (hf.below hB hf.1).elMsg hlt hM
      have hx := HS.out k hlt
      rw [hM] at hx
      have hx' : x7.size ≤ 1048576 := hx
      have hli : (k : Int) < (n : Int) := by omega
      have hT : msgT (M k) = msgB x0 x1 x2 x3 x4 x5 x6 x7 := by rw [hM]; rfl
      have hP : pkL (M k) = packL x0 x1 x2 x3 x4 x5 x6 x7 := by rw [hM]; rfl
      clear hx hM
      cases hm : msgB x0 x1 x2 x3 x4 x5 x6 x7
      · have hBad : jB M n = false := jB_bad (hT.trans hm) hlt
        go_wp2_with fail
        refine (specPack_any x0 x1 x2 x3 x4 x5 x6 x7 _ hx').mono ?_
        rintro e w1 ⟨v, rfl, O1, hb⟩
        rw [hm]
        have hB1 := hB.trans (hb.mono hB.size)
        go_wp2_with fail
        exact bodyPost_ret (v := .tuple #[.slice (some ⟨w1.heap.size, 0, none⟩) 0 0, .bool false]) (by simp [results, Try.results20, go_sem]) rfl ⟨_, by first | rfl | rw [hBad], by rw [jR_no hBad]; exact ownB_new w1 _ hB1.size, hB1.alloc hB1.size _⟩
      · go_wp2_with fail
        refine (specPack_any x0 x1 x2 x3 x4 x5 x6 x7 _ hx').mono ?_
        rintro e w1 ⟨v1, rfl, O1, hb⟩
        rw [hm]
        replace O := ownB_below O hb
        have hB1 := hB.trans (hb.mono hB.size)
        have hlr : ∀ g, (v1.ownBlock = some g) → wr.heap.size ≤ g := fun g hg => by have := (O1.lt g hg).1; omega
        have hpl := pkL_short (M := M k) (by rw [hT, hm])
        rw [packR, hm, if_pos rfl, ← hP] at O1
        have hne : pkL (M k) ≠ [] := by rw [hP]; exact packL_ne _ _ _ _ _ _ _ _
        have HJ : Hid (jn M (k + 1) = jn M k ++ putL (pkL (M k)).length ++ pkL (M k)) := rfl
        have HOK1 : Hid (okN M (k + 1) = true) := by rw [Hid, okN, HOK.out, hT, hm]; rfl
        clear hP hT hm c0 c1 c2 c3 c4 c5 c6 c7 HOK hb hB 
        generalize jn M k = J at *
        generalize pkL (M k) = L at *
        obtain ⟨g1, cp1, rfl⟩ := ownB_some O1 hne
        go_wp2_with fail
        refine (specPutNum_any (L.length : Int) _ (by omega)).mono ?_
        rintro e w2 ⟨v2, rfl, O2, hb⟩
        have hB2 := hB1.trans (hb.mono hB1.size)
        replace O := ownB_below O hb
        replace O1 := ownB_below O1 hb
        have hpn := putL_len (L.length : Int)
        have hne2 := putL_ne (x := (L.length : Int)) (by omega)
        clear hb
        generalize putL (L.length : Int) = N2 at *
        obtain ⟨g2, cp2, rfl⟩ := ownB_some O2 hne2
        have HM : Hid (∀ j u, (bts N2)[j]? = some u → w2.cell? ((⟨g2, 0, none⟩ : Addr).add j) = some u) := ownB_cells O2
        go_upto_region 11 with (at_builtin; refine wpList_append_own _ rfl _ _ 22 rfl w.heap.size 5 i0 (.int .u8 0) 1 1 Try.underlying22 hi hz0 hz1 hz2 rfl (by decide) _ _ _ rfl O ⟨g2, 0, none⟩ _ cp2 (bts N2) rfl (by rw [bts_len, Nat.mul_one]) HM.out (bts_one _) (by unfold maxLen; omega) (by omega) hB2.size ?_; intro v' wn hown' hgrow _)
        have G := grownB_below O hgrow hB2.size
        have hB3 := hB2.trans (G.mono (Nat.le_refl _))
        have hl1 : w.heap.size ≤ g1 := by have := hlr g1 rfl; omega
        have O3 : wn.ownsRow w.heap.size 5 1 v' (J ++ N2).length (bts (J ++ N2)) := by rw [bts_app, List.length_append]; exact hown'
        have O1' := O1.kept hgrow (.inr (fun he => by
          have h1 := hlr g1 rfl
          have h2 := hol g1 he.symm
          omega))
        have hl3 : (J ++ N2).length ≤ 110 * k + 10 := by rw [List.length_append]; omega
        clear hown' hgrow G HM O O1 O2 hB2
        generalize hJ2 : J ++ N2 = J2 at *
        have HM : Hid (∀ j u, (bts L)[j]? = some u → wn.cell? ((⟨g1, 0, none⟩ : Addr).add j) = some u) := ownB_cells O1'
        go_wp2_with (at_builtin; refine wpList_append_own _ rfl _ _ 22 rfl w.heap.size 5 i0 (.int .u8 0) 1 1 Try.underlying22 hi hz0 hz1 hz2 rfl (by decide) _ _ _ rfl O3 ⟨g1, 0, none⟩ _ cp1 (bts L) rfl (by rw [bts_len, Nat.mul_one]) HM.out (bts_one _) (by unfold maxLen; omega) (by omega) hB3.size ?_; intro v2' w4 hown' hgrow _)
        have G := grownB_below O3 hgrow hB3.size
        have hB4 := hB3.trans (G.mono (Nat.le_refl _))
        have O4 : w4.ownsRow w.heap.size 5 1 v2' (jn M (k + 1)).length (bts (jn M (k + 1))) := by rw [HJ.out, bts_app, List.length_append]; exact hown'
        clear hown' hgrow G HM O3 O1'
        (try go_wp2_with fail)
        go_roundw
        case rel => exact ⟨k + 1, by omega, by go_num, HOK1.out, O4, hB4⟩
        case measure => simp [intOf]; omega
    · have hkn : k = n := by omega
      subst hkn
      have hli : ¬ (k : Int) < (k : Int) := by omega
      have hGood : jB M k = true := jB_ok HOK.out hn
      go_wp2_with fail
      exact bodyPost_ret (v := .tuple #[u4, .bool true]) (by simp [results, Try.results20, go_sem]) rfl ⟨_, by first | rfl | rw [hGood], by rw [jR_ok hGood]; exact O, hB⟩
theorem specJoinMsgs_any (a : Option Addr) (n c : Nat) (M : Nat → MT) (w : World) (hm : n ≤ maxLen) (h : SrcC w a (n * 8) (MFMsg M)) (hs : ∀ i, i < n → ((M i).2.2.2.2.2.2.2).size ≤ 1048576) :
    Calls Try.prog 20 #[.slice a n c] w fun e w' => ∃ v : Value, e = .returned (.tuple #[v, .bool (jB M n)]) ∧ w'.ownsRow w.heap.size 5 1 v (jR M n).length (bts (jR M n)) ∧ Below w.heap.size w w' := by
  by_cases hl : 40 < n
  · exact specJoinMsgs_long a n c M w hm hl
  · rcases h with h0 | ⟨b, off, rfl, hf⟩
    · have hn0 : n = 0 := by omega
      subst hn0
      exact specJoinMsgs_zero a c M w
    · exact specJoinMsgs_some b off n c M w (by omega) hf hs
set_option maxHeartbeats 1000000 in
theorem implJoinMsgs_long (a : Option Addr) (n c : Nat) (M : Nat → MT) (w : World) (hm : n ≤ maxLen) (h : 40 < n) :
    Calls Try.prog 19 #[.slice a n c] w fun e w' => ∃ v : Value, e = .returned (.tuple #[v, .bool (jB M n)]) ∧ w'.ownsRow w.heap.size 5 1 v (jR M n).length (bts (jR M n)) ∧ Below w.heap.size w w' := by
  unfold maxLen at hm
  have hB : jB M n = false := by rw [jB, decide_eq_false (by omega)]; rfl
  have hi : (40 : Int) < (n : Int) := by omega
  go_enter Try.func19, Try.ntmps19
  go_wp2_with fail
  exact bodyPost_ret (v := .tuple #[.slice none 0 0, .bool false]) (by simp [results, Try.results19, go_sem]) rfl ⟨_, by first | rfl | rw [hB], by rw [jR_no hB]; exact ownB_nil w _, Below.refl _ _⟩
set_option maxHeartbeats 1000000 in
theorem implJoinMsgs_zero (a : Option Addr) (c : Nat) (M : Nat → MT) (w : World) :
    Calls Try.prog 19 #[.slice a 0 c] w fun e w' => ∃ v : Value, e = .returned (.tuple #[v, .bool (jB M 0)]) ∧ w'.ownsRow w.heap.size 5 1 v (jR M 0).length (bts (jR M 0)) ∧ Below w.heap.size w w' := by
  have hB : jB M 0 = true := rfl
  go_enter Try.func19, Try.ntmps19
  go_wp2_with fail
  go_loopw [4, 14] (fun v i wr => i = .int .i64 0 ∧ v = .slice none 0 0 ∧ w = wr) (fun _ i _ => 0)
  case atStart => exact ⟨rfl, rfl, by first | rfl | trivial⟩
  case round =>
    obtain ⟨rfl, rfl, rfl⟩ := hrel
    go_wp2_with fail
    exact bodyPost_ret (v := .tuple #[.slice none 0 0, .bool true]) (by simp [results, Try.results19, go_sem]) rfl ⟨_, by first | rfl | rw [hB], by rw [jR_ok hB]; exact ownB_nil w _, Below.refl _ _⟩
set_option maxHeartbeats 8000000 in
theorem implJoinMsgs_some (b off n c : Nat) (M : Nat → MT) (w : World) (hn : n ≤ 40) (hf : Cs w b off (n * 8) (MFMsg M)) (hs : ∀ i, i < n → ((M i).2.2.2.2.2.2.2).size ≤ 1048576) :
    Calls Try.prog 19 #[.slice (some ⟨b, off, none⟩) n c] w fun e w' => ∃ v : Value, e = .returned (.tuple #[v, .bool (jB M n)]) ∧ w'.ownsRow w.heap.size 5 1 v (jR M n).length (bts (jR M n)) ∧ Below w.heap.size w w' := by
  obtain ⟨i0, hi, hz0, hz1, hz2⟩ := info_parts infoByte
  have HS : Hid (∀ i, i < n → ((M i).2.2.2.2.2.2.2).size ≤ 1048576) := hs
  clear hs
  have h40 : ¬ (40 : Int) < (n : Int) := by omega
  have A0 := ownB_nil w w.heap.size
  go_enter Try.func19, Try.ntmps19
  go_wp2_with fail
  go_loopw [4, 14] (fun v i wr => ∃ k : Nat, k ≤ n ∧ i = .int .i64 k ∧ okN M k = true ∧ wr.ownsRow w.heap.size 5 1 v (jn M k).length (bts (jn M k)) ∧ Below w.heap.size w wr) (fun _ i _ => n - (intOf i).toNat)
  case atStart => exact ⟨0, Nat.zero_le _, rfl, rfl, A0, Below.refl _ _⟩
  case round =>
    obtain ⟨k, hk, rfl, hok, O, hB⟩ := hrel
    have HOK : Hid (okN M k = true) := hok
    have hjl := jn_len hok
    have hol : ∀ g, (Value.ownBlock u4 = some g) → g < wr.heap.size := fun g hg => (O.lt g hg).2
    have hBw : w.heap.size ≤ wr.heap.size := hB.size
    clear hok A0
    by_cases hlt : k < n
    · obtain ⟨x0, x1, x2, x3, x4, x5, x6, x7, hM⟩ := tupMsg M k
      obtain ⟨c0, c1, c2, c3, c4, c5, c6, c7⟩ := (hf.below hB hf.1).elMsg hlt hM
      have hx := HS.out k hlt
      rw [hM] at hx
      have hx' : x7.size ≤ 1048576 := hx
      have hli : (k : Int) < (n : Int) := by omega
      have hT : msgT (M k) = msgB x0 x1 x2 x3 x4 x5 x6 x7 := by rw [hM]; rfl
      have hP : pkL (M k) = packL x0 x1 x2 x3 x4 x5 x6 x7 := by rw [hM]; rfl
      clear hx hM
      have Bx := Box8.new wr x0 x1 x2 x3 x4 x5 x6 x7 27
      cases hm : msgB x0 x1 x2 x3 x4 x5 x6 x7
      · have hBad : jB M n = false := jB_bad (hT.trans hm) hlt
        go_wp2_with fail
        refine (implPack_any x0 x1 x2 x3 x4 x5 x6 x7 _ hx').mono ?_
        rintro e w1 ⟨v, rfl, O1, hb⟩
        rw [hm]
        have hB1 := (hB.alloc hB.size (.cells #[.int .i64 x0, .int .i64 x1, .int .i64 x2, .int .i64 x3, .int .i64 x4, .int .i64 x5, .int .i64 x6, .string x7] 27)).trans (hb.mono (by have := hB.size; simp; omega))
        go_wp2_with fail
        exact bodyPost_ret (v := .tuple #[.slice none 0 0, .bool false]) (by simp [results, Try.results19, go_sem]) rfl ⟨_, by first | rfl | rw [hBad], by rw [jR_no hBad]; exact ownB_nil w1 _, hB1⟩
      · go_wp2_with fail
        refine (implPack_any x0 x1 x2 x3 x4 x5 x6 x7 _ hx').mono ?_
        rintro e w1 ⟨v1, rfl, O1, hb⟩
        rw [hm]
        have A1 := Below.nw wr (.cells #[.int .i64 x0, .int .i64 x1, .int .i64 x2, .int .i64 x3, .int .i64 x4, .int .i64 x5, .int .i64 x6, .string x7] 27)
        replace O := ownB_below (ownB_below O A1) hb
        have hB1 := (hB.trans (A1.mono hB.size)).trans (hb.mono (hB.trans (A1.mono hB.size)).size)
        have hlr : ∀ g, (v1.ownBlock = some g) → wr.heap.size ≤ g := fun g hg => by have := (O1.lt g hg).1; simp at this; omega
        have hpl := pkL_short (M := M k) (by rw [hT, hm])
        rw [packR, hm, if_pos rfl, ← hP] at O1
        have hne : pkL (M k) ≠ [] := by rw [hP]; exact packL_ne _ _ _ _ _ _ _ _
        have HJ : Hid (jn M (k + 1) = jn M k ++ putL (pkL (M k)).length ++ pkL (M k)) := rfl
        have HOK1 : Hid (okN M (k + 1) = true) := by rw [Hid, okN, HOK.out, hT, hm]; rfl
        clear hP hT hm c0 c1 c2 c3 c4 c5 c6 c7 HOK hb hB A1 Bx
        generalize jn M k = J at *
        generalize pkL (M k) = L at *
        obtain ⟨g1, cp1, rfl⟩ := ownB_some O1 hne
        go_wp2_with fail
        refine (implPutNum_any (L.length : Int) _ (by omega)).mono ?_
        rintro e w2 ⟨v2, rfl, O2, hb⟩
        have hB2 := hB1.trans (hb.mono hB1.size)
        replace O := ownB_below O hb
        replace O1 := ownB_below O1 hb
        have hpn := putL_len (L.length : Int)
        have hne2 := putL_ne (x := (L.length : Int)) (by omega)
        clear hb
        generalize putL (L.length : Int) = N2 at *
        obtain ⟨g2, cp2, rfl⟩ := ownB_some O2 hne2
        have HM : Hid (∀ j u, (bts N2)[j]? = some u → w2.cell? ((⟨g2, 0, none⟩ : Addr).add j) = some u) := ownB_cells O2
        go_upto_region 11 with (at_builtin; refine wpList_append_own _ rfl _ _ 22 rfl w.heap.size 5 i0 (.int .u8 0) 1 1 Try.underlying22 hi hz0 hz1 hz2 rfl (by decide) _ _ _ rfl O ⟨g2, 0, none⟩ _ cp2 (bts N2) rfl (by rw [bts_len, Nat.mul_one]) HM.out (bts_one _) (by unfold maxLen; omega) (by omega) hB2.size ?_; intro v' wn hown' hgrow _)
        have G := grownB_below O hgrow hB2.size
        have hB3 := hB2.trans (G.mono (Nat.le_refl _))
        have hl1 : w.heap.size ≤ g1 := by have := hlr g1 rfl; omega
        have O3 : wn.ownsRow w.heap.size 5 1 v' (J ++ N2).length (bts (J ++ N2)) := by rw [bts_app, List.length_append]; exact hown'
        have O1' := O1.kept hgrow (.inr (fun he => by
          have h1 := hlr g1 rfl
          have h2 := hol g1 he.symm
          omega))
        have hl3 : (J ++ N2).length ≤ 110 * k + 10 := by rw [List.length_append]; omega
        clear hown' hgrow G HM O O1 O2 hB2
        generalize hJ2 : J ++ N2 = J2 at *
        have HM : Hid (∀ j u, (bts L)[j]? = some u → wn.cell? ((⟨g1, 0, none⟩ : Addr).add j) = some u) := ownB_cells O1'
        go_wp2_with (at_builtin; refine wpList_append_own _ rfl _ _ 22 rfl w.heap.size 5 i0 (.int .u8 0) 1 1 Try.underlying22 hi hz0 hz1 hz2 rfl (by decide) _ _ _ rfl O3 ⟨g1, 0, none⟩ _ cp1 (bts L) rfl (by rw [bts_len, Nat.mul_one]) HM.out (bts_one _) (by unfold maxLen; omega) (by omega) hB3.size ?_; intro v2' w4 hown' hgrow _)
        have G := grownB_below O3 hgrow hB3.size
        have hB4 := hB3.trans (G.mono (Nat.le_refl _))
        have O4 : w4.ownsRow w.heap.size 5 1 v2' (jn M (k + 1)).length (bts (jn M (k + 1))) := by rw [HJ.out, bts_app, List.length_append]; exact hown'
        clear hown' hgrow G HM O3 O1'
        (try go_wp2_with fail)
        go_roundw
        case rel => exact ⟨k + 1, by omega, by go_num, HOK1.out, O4, hB4⟩
        case measure => simp [intOf]; omega
    · have hkn : k = n := by omega
      subst hkn
      have hli : ¬ (k : Int) < (k : Int) := by omega
      have hGood : jB M k = true := jB_ok HOK.out hn
      go_wp2_with fail
      exact bodyPost_ret (v := .tuple #[u4, .bool true]) (by simp [results, Try.results19, go_sem]) rfl ⟨_, by first | rfl | rw [hGood], by rw [jR_ok hGood]; exact O, hB⟩
theorem implJoinMsgs_any (a : Option Addr) (n c : Nat) (M : Nat → MT) (w : World) (hm : n ≤ maxLen) (h : SrcC w a (n * 8) (MFMsg M)) (hs : ∀ i, i < n → ((M i).2.2.2.2.2.2.2).size ≤ 1048576) :
    Calls Try.prog 19 #[.slice a n c] w fun e w' => ∃ v : Value, e = .returned (.tuple #[v, .bool (jB M n)]) ∧ w'.ownsRow w.heap.size 5 1 v (jR M n).length (bts (jR M n)) ∧ Below w.heap.size w w' := by
  by_cases hl : 40 < n
  · exact implJoinMsgs_long a n c M w hm hl
  · rcases h with h0 | ⟨b, off, rfl, hf⟩
    · have hn0 : n = 0 := by omega
      subst hn0
      exact implJoinMsgs_zero a c M w
    · exact implJoinMsgs_some b off n c M w (by omega) hf hs
end Go.Proofs.Ytbflhhifkhoapaa
