/- What the functions over lists of sources tell; contracts of PeersFresh. -/
import Derived.Test.YtkeijldfblgeaaaI103
import Derived.Test.YtkeijldfblgeaaaI106
import Derived.WalkKit
import Derived.WalkSpells
import Derived.WalkLawsBesides
import Derived.Deep.RegionHeld
namespace Go.Proofs.Ytkeijldfblgeaaa
open Go.RowKit
set_option linter.unusedVariables false
theorem SrcC.some {w : World} {a : Option Addr} {N : Nat} {F : Nat → Value} (h : SrcC w a N F) (hN : 0 < N) : ∃ b off, a = some ⟨b, off, none⟩ ∧ Cs w b off N F := by
  rcases h with h | h
  · omega
  · exact h
def lst (M : Nat → PT) (n : Nat) : List PT := (List.range n).map M
theorem lst_succ (M : Nat → PT) (k : Nat) : lst M (k + 1) = lst M k ++ [M k] := by simp [lst, List.range_succ]
theorem lst_mem {M : Nat → PT} {n : Nat} {q : PT} : q ∈ lst M n ↔ ∃ j, j < n ∧ M j = q := by simp [lst]
theorem lst_len (M : Nat → PT) (n : Nat) : (lst M n).length = n := by simp [lst]
def frB (x y : Int) (p : PT) : Bool := decide (0 ≤ x - p.2.2.2.1 ∧ x - p.2.2.2.1 ≤ y)
def frs (M : Nat → PT) (x y : Int) : Nat → List Int
  | 0 => []
  | k + 1 => if frB x y (M k) then frs M x y k ++ [(k : Int)] else frs M x y k
theorem frs_yes {M : Nat → PT} {x y : Int} {k : Nat} (h : frB x y (M k) = true) : frs M x y (k + 1) = frs M x y k ++ [(k : Int)] := by simp [frs, h]
theorem frs_no {M : Nat → PT} {x y : Int} {k : Nat} (h : frB x y (M k) = false) : frs M x y (k + 1) = frs M x y k := by simp [frs, h]
theorem frs_len (M : Nat → PT) (x y : Int) : ∀ k, (frs M x y k).length ≤ k
  | 0 => Nat.le_refl _
  | k + 1 => by have := frs_len M x y k; simp only [frs]; split <;> simp <;> omega
def frL (M : Nat → PT) (n : Nat) (x y : Int) : List Int := if (oks M n && okT x && okT y) = true then frs M x y n else []
theorem frL_t {M : Nat → PT} {n : Nat} {x y : Int} (h1 : oks M n = true) (h2 : okT x = true) (h3 : okT y = true) : frL M n x y = frs M x y n := if_pos (by rw [h1, h2, h3]; rfl)
theorem frL_1 {M : Nat → PT} {n : Nat} {x y : Int} (h1 : oks M n = false) : frL M n x y = [] := if_neg (by rw [h1]; simp)
theorem frL_2 {M : Nat → PT} {n : Nat} {x y : Int} (h1 : okT x = false) : frL M n x y = [] := if_neg (by rw [h1]; simp)
theorem frL_3 {M : Nat → PT} {n : Nat} {x y : Int} (h1 : okT y = false) : frL M n x y = [] := if_neg (by rw [h1]; simp)
theorem PeersFresh_len (M : Nat → PT) (n : Nat) (x y : Int) : (frL M n x y).length ≤ 9 := by
  unfold frL
  split
  · next h => simp only [Bool.and_eq_true] at h; have := oks_le h.1.1; have := frs_len M x y n; omega
  · simp
/- The peer of an Id, among the first k. -/
def lkP (M : Nat → PT) : Nat → Int → Option PT
  | 0, _ => none
  | k + 1, x => if (M k).1 = x then some (M k) else lkP M k x
theorem lkP_none {M : Nat → PT} {x : Int} : ∀ {k : Nat}, (∀ j, j < k → (M j).1 ≠ x) → lkP M k x = none
  | 0, _ => rfl
  | k + 1, h => by rw [lkP, if_neg (h k (by omega))]; exact lkP_none fun j hj => h j (by omega)
theorem lkP_at {M : Nat → PT} : ∀ {n : Nat}, (∀ i j, i < j → j < n → (M i).1 < (M j).1) → ∀ {j : Nat}, j < n → lkP M n (M j).1 = some (M j)
  | 0, _, j, h => absurd h (Nat.not_lt_zero _)
  | n + 1, ha, j, h => by
    rw [lkP]
    by_cases e : j = n
    · subst e; rw [if_pos rfl]
    · rw [if_neg (by have := ha j n (by omega) (by omega); omega)]
      exact lkP_at (fun a b h1 h2 => ha a b h1 (by omega)) (by omega)
theorem lkP_some {M : Nat → PT} {x : Int} {q : PT} : ∀ {k : Nat}, lkP M k x = some q → ∃ j, j < k ∧ M j = q ∧ q.1 = x
  | 0, h => by cases h
  | k + 1, h => by
    rw [lkP] at h
    by_cases e : (M k).1 = x
    · rw [if_pos e] at h
      injection h with h
      exact ⟨k, by omega, h, by rw [← h]; exact e⟩
    · rw [if_neg e] at h
      obtain ⟨j, h1, h2, h3⟩ := lkP_some h
      exact ⟨j, by omega, h2, h3⟩
theorem lkP_step {M : Nat → PT} {k : Nat} {x0 : Int} (e : (M k).1 = x0) (y : Int) : lkP M (k + 1) y = if y = x0 then some (M k) else lkP M k y := by
  rw [lkP]
  by_cases h : y = x0
  · rw [if_pos h, if_pos (e.trans h.symm)]
  · rw [if_neg h, if_neg (fun q => h (q.symm.trans e))]
def agI (y : Int) (p : PT) : Int := imx (y - p.2.2.2.1) (-1)
def agO (y : Int) : Option PT → Int
  | some p => agI y p
  | none => -1
def pAge (M : Nat → PT) (n : Nat) (x y : Int) : Int := if (oks M n && okT y) = true then agO y (lkP M n x) else -1
theorem pAge_t {M : Nat → PT} {n : Nat} {x y : Int} (h1 : oks M n = true) (h2 : okT y = true) : pAge M n x y = agO y (lkP M n x) := if_pos (by rw [h1, h2]; rfl)
theorem pAge_1 {M : Nat → PT} {n : Nat} {x y : Int} (h1 : oks M n = false) : pAge M n x y = -1 := if_neg (by rw [h1]; simp)
theorem pAge_2 {M : Nat → PT} {n : Nat} {x y : Int} (h1 : okT y = false) : pAge M n x y = -1 := if_neg (by rw [h1]; simp)
def suN (M : Nat → PT) (n : Nat) : List Int := ((lst M n).filter fun p => !p.2.2.2.2).map fun p => p.1
theorem suN_yes {M : Nat → PT} {k : Nat} (h : (M k).2.2.2.2 = false) : suN M (k + 1) = suN M k ++ [(M k).1] := by simp [suN, lst_succ, h]
theorem suN_no {M : Nat → PT} {k : Nat} (h : (M k).2.2.2.2 = true) : suN M (k + 1) = suN M k := by simp [suN, lst_succ, h]
theorem suN_len (M : Nat → PT) (n : Nat) : (suN M n).length ≤ n := by
  rw [suN, List.length_map]
  exact Nat.le_trans (List.length_filter_le _ _) (Nat.le_of_eq (lst_len M n))
def suL (M : Nat → PT) (n : Nat) : List Int := if oks M n = true then suN M n else []
theorem suL_t {M : Nat → PT} {n : Nat} (h : oks M n = true) : suL M n = suN M n := if_pos h
theorem suL_f {M : Nat → PT} {n : Nat} (h : oks M n = false) : suL M n = [] := if_neg (by rw [h]; simp)
theorem PeersSure_len (M : Nat → PT) (n : Nat) : (suL M n).length ≤ 9 := by
  unfold suL
  split
  · next h => have := oks_le h; have := suN_len M n; omega
  · simp
def drN (M : Nat → PT) (x : Int) (n : Nat) : List PT := (lst M n).filter fun p => p.1 != x
theorem drN_yes {M : Nat → PT} {x : Int} {k : Nat} (h : (M k).1 ≠ x) : drN M x (k + 1) = drN M x k ++ [M k] := by simp [drN, lst_succ, h]
theorem drN_no {M : Nat → PT} {x : Int} {k : Nat} (h : (M k).1 = x) : drN M x (k + 1) = drN M x k := by simp [drN, lst_succ, h]
theorem drN_len (M : Nat → PT) (x : Int) (n : Nat) : (drN M x n).length ≤ n := Nat.le_trans (List.length_filter_le _ _) (Nat.le_of_eq (lst_len M n))
def drA (M : Nat → PT) (x : Int) (n : Nat) : Int := if (lst M n).any (fun p => p.1 == x) then 0 else 2
theorem drA_yes {M : Nat → PT} {x : Int} {k : Nat} (h : (M k).1 = x) : drA M x (k + 1) = 0 := by simp [drA, lst_succ, h]
theorem drA_no {M : Nat → PT} {x : Int} {k : Nat} (h : (M k).1 ≠ x) : drA M x (k + 1) = drA M x k := by
  have e : ((M k).1 == x) = false := beq_eq_false_iff_ne.2 h
  unfold drA
  rw [lst_succ, List.any_append]
  simp only [List.any_cons, List.any_nil, e, Bool.or_false]
def drL (M : Nat → PT) (n : Nat) (x : Int) : List PT := if oks M n = true then drN M x n else []
def drC (M : Nat → PT) (n : Nat) (x : Int) : Int := if oks M n = true then drA M x n else 1
theorem drL_t {M : Nat → PT} {n : Nat} {x : Int} (h : oks M n = true) : drL M n x = drN M x n ∧ drC M n x = drA M x n := ⟨if_pos h, if_pos h⟩
theorem drL_f {M : Nat → PT} {n : Nat} {x : Int} (h : oks M n = false) : drL M n x = [] ∧ drC M n x = 1 := ⟨if_neg (by rw [h]; simp), if_neg (by rw [h]; simp)⟩
theorem PeerDrop_len (M : Nat → PT) (n : Nat) (x : Int) : (drL M n x).length ≤ 9 := by
  unfold drL
  split
  · next h => have := oks_le h; have := drN_len M x n; omega
  · simp
set_option maxRecDepth 100000 in
set_option maxHeartbeats 4000000 in
theorem specPeersFresh_any (a : Option Addr) (n c : Nat) (M : Nat → PT) (x y : Int) (w : World) (hm : n ≤ maxLen) (hs : SrcC w a (n * 5) (MFPeer M)) :
    Calls Try.prog 36 #[.slice a n c, .int .i64 x, .int .i64 y] w fun e w' => ∃ v, e = .returned v ∧ w'.ownsRow w.heap.size 3 1 v (frL M n x y).length (irow (frL M n x y)) ∧ Below w.heap.size w w' := by
  have HS : Hid (SrcC w a (n * 5) (MFPeer M)) := hs
  have B0 := Below.nw w (.cells #[] 3)
  have O0 := made_int w
  have C1 := fun (v : World) (hb : Below w.heap.size w v) => specPeersOk_any a n c M v hm (HS.out.below hb)
  clear hs
  cases h1 : oks M n
  · have e0 : frL M n x y = [] := frL_1 h1
    rw [e0]
    clear e0
    go_enter Try.func36, Try.ntmps36
    go_upto_region 2 with fail
    generalize hw0 : w.alloc (.cells #[] 3) = w0 at *
    clear hw0
    go_wp2_with fail
    refine (C1 _ B0).mono ?_
    rintro e w1 ⟨rfl, hb⟩
    rw [h1]
    replace B0 := B0.trans (hb.mono B0.size)
    replace O0 := own_belK' O0 hb
    clear hb
    go_wp2_with fail
    go_ret
    exact ⟨_, rfl, O0, B0⟩
  cases h2 : okT x
  · have e0 : frL M n x y = [] := frL_2 h2
    rw [e0]
    clear e0
    go_enter Try.func36, Try.ntmps36
    go_upto_region 2 with fail
    generalize hw0 : w.alloc (.cells #[] 3) = w0 at *
    clear hw0
    go_wp2_with fail
    refine (C1 _ B0).mono ?_
    rintro e w1 ⟨rfl, hb⟩
    rw [h1]
    replace B0 := B0.trans (hb.mono B0.size)
    replace O0 := own_belK' O0 hb
    clear hb
    go_wp2_with fail
    refine (l2Time_any _ _).mono ?_
    rintro e w' ⟨rfl, rfl⟩
    rw [h2]
    go_wp2_with fail
    go_ret
    exact ⟨_, rfl, O0, B0⟩
  cases h3 : okT y
  · have e0 : frL M n x y = [] := frL_3 h3
    rw [e0]
    clear e0
    go_enter Try.func36, Try.ntmps36
    go_upto_region 2 with fail
    generalize hw0 : w.alloc (.cells #[] 3) = w0 at *
    clear hw0
    go_wp2_with fail
    refine (C1 _ B0).mono ?_
    rintro e w1 ⟨rfl, hb⟩
    rw [h1]
    replace B0 := B0.trans (hb.mono B0.size)
    replace O0 := own_belK' O0 hb
    clear hb
    go_wp2_with fail
    refine (l2Time_any _ _).mono ?_
    rintro e w' ⟨rfl, rfl⟩
    rw [h2]
    go_wp2_with fail
    refine (l2Time_any _ _).mono ?_
    rintro e w' ⟨rfl, rfl⟩
    rw [h3]
    go_wp2_with fail
    go_ret
    exact ⟨_, rfl, O0, B0⟩
  rw [frL_t h1 h2 h3]
  have HOK : Hid (oks M n = true) := h1
  have hn8 := oks_le h1
  have ⟨hx0, hx1⟩ := okT_t h2
  have ⟨hy0, hy1⟩ := okT_t h3
  go_enter Try.func36, Try.ntmps36
  go_upto_region 2 with fail
  generalize hw0 : w.alloc (.cells #[] 3) = w0 at *
  clear hw0
  go_wp2_with fail
  refine (C1 _ B0).mono ?_
  rintro e w1 ⟨rfl, hb⟩
  rw [h1]
  replace B0 := B0.trans (hb.mono B0.size)
  replace O0 := own_belK' O0 hb
  clear hb
  go_wp2_with fail
  refine (l2Time_any _ _).mono ?_
  rintro e w' ⟨rfl, rfl⟩
  rw [h2]
  go_wp2_with fail
  refine (l2Time_any _ _).mono ?_
  rintro e w' ⟨rfl, rfl⟩
  rw [h3]
  clear C1 h1 h2 h3
  go_wp2_with fail
  go_loopw [7, 8] (fun v i wr => ∃ k : Nat, k ≤ n ∧ i = .int .i64 k ∧ wr.ownsRow w.heap.size 3 1 v (frs M x y k).length (irow (frs M x y k)) ∧ Below w.heap.size w wr) (fun _ i _ => n - (intOf i).toNat)
  case atStart => exact ⟨0, Nat.zero_le _, rfl, O0, B0⟩
  case round =>
    obtain ⟨k, hk, rfl, OW, hB⟩ := hrel
    by_cases hlt : k < n
    · obtain ⟨b, off, rfl, hf⟩ := HS.out.some (by omega)
      obtain ⟨x0, x1, x2, x3, x4, hM⟩ := tupPeer M k
      obtain ⟨c0, c1, c2, c3, c4⟩ := (hf.below hB hf.1).elPeer hlt hM
      have hat := okT_t (oks_p HOK.out hlt).2.2
      rw [hM] at hat
      have hat0 : 0 ≤ x3 := hat.1
      have hat1 : x3 ≤ 1000000000000 := hat.2
      have HFB : Hid (frB x y (M k) = decide (0 ≤ x - x3 ∧ x - x3 ≤ y)) := by rw [Hid, hM]; rfl
      have hli : (k : Int) < (n : Int) := by omega
      have hbr : b < wr.heap.size := Nat.lt_of_lt_of_le hf.1 hB.size
      have hln := frs_len M x y k
      have HY : Hid (frB x y (M k) = true → frs M x y (k + 1) = frs M x y k ++ [(k : Int)]) := frs_yes
      have HNn : Hid (frB x y (M k) = false → frs M x y (k + 1) = frs M x y k) := frs_no
      clear hM hat hf
      have hBs := hB.size
      generalize frs M x y k = L at *
      cases h4 : decide (0 ≤ x - x3 ∧ x - x3 ≤ y)
      · have HT := HNn.out (by rw [HFB.out, h4])
        have HT' : Hid (frs M x y (k + 1) = L) := HT
        clear HT
        go_wp2_with fail
        refine (l1In_any _ _ _ _).mono ?_
        rintro e w' ⟨rfl, rfl⟩
        rw [h4]
        go_wp2_with fail
        go_roundw
        case rel => exact ⟨k + 1, by omega, by go_num, by rw [HT'.out]; exact OW, hB⟩
        case measure => simp [intOf]; omega
      · have HT := HY.out (by rw [HFB.out, h4])
        have HT' : Hid (frs M x y (k + 1) = L ++ [(k : Int)]) := HT
        clear HT
        go_wp2_with fail
        refine (l1In_any _ _ _ _).mono ?_
        rintro e w' ⟨rfl, rfl⟩
        rw [h4]
        clear c0 c1 c2 c3 c4
        go_wp2_with (at_builtin; refine add_int rfl _ _ rfl w.heap.size L _ rfl OW rfl (by omega) (by omega) ?_; intro v' w9 O9 hg9 hn9)
        have HO9 : Hid (w9.ownsRow w.heap.size 3 1 v' (L ++ [(k : Int)]).length (irow (L ++ [(k : Int)]))) := O9
        have B9 := hB.trans (grown_belowK OW hg9 hBs)
        clear O9 OW hg9 hn9 hB
        go_wp2_with fail
        go_roundw
        case rel => exact ⟨k + 1, by omega, by go_num, by rw [HT'.out]; exact HO9.out, B9⟩
        case measure => simp [intOf]; omega
    · have hkn : k = n := by omega
      subst hkn
      have hli : ¬ (k : Int) < (k : Int) := by omega
      obtain ⟨av, cv, rfl, _, _, _⟩ := ownF_src OW
      go_wp2_with fail
      go_ret
      exact ⟨_, rfl, OW, hB⟩
set_option maxRecDepth 100000 in
set_option maxHeartbeats 4000000 in
theorem implPeersFresh_w (a : Option Addr) (n c : Nat) (M : Nat → PT) (x y : Int) (w : World) (hm : n ≤ maxLen) (hs : SrcC w a (n * 5) (MFPeer M)) :
    Calls Try.prog 34 #[.slice a n c, .int .i64 x, .int .i64 y] w fun e w' => ∃ v, e = .returned v ∧ w'.ownsRow w.heap.size 3 1 v (frL M n x y).length (irow (frL M n x y)) ∧ Below w.heap.size w w' := by
  have HS : Hid (SrcC w a (n * 5) (MFPeer M)) := hs
  have B0 := Below.refl w.heap.size w
  have C1 := fun (v : World) (hb : Below w.heap.size w v) => implPeersOk_any a n c M v hm (HS.out.below hb)
  clear hs
  cases h1 : oks M n
  · have e0 : frL M n x y = [] := frL_1 h1
    rw [e0]
    clear e0
    go_enter Try.func34, Try.ntmps34
    go_wp2_with fail
    refine (C1 _ B0).mono ?_
    rintro e w1 ⟨rfl, hb⟩
    rw [h1]
    replace B0 := B0.trans (hb.mono B0.size)
    clear hb
    go_wp2_with fail
    go_ret
    exact ⟨_, rfl, (nil_int _ _), B0⟩
  cases h2 : okT x
  · have e0 : frL M n x y = [] := frL_2 h2
    rw [e0]
    clear e0
    go_enter Try.func34, Try.ntmps34
    go_wp2_with fail
    refine (C1 _ B0).mono ?_
    rintro e w1 ⟨rfl, hb⟩
    rw [h1]
    replace B0 := B0.trans (hb.mono B0.size)
    clear hb
    go_wp2_with fail
    refine (isTime_any _ _).mono ?_
    rintro e w' ⟨rfl, rfl⟩
    rw [h2]
    go_wp2_with fail
    go_ret
    exact ⟨_, rfl, (nil_int _ _), B0⟩
  cases h3 : okT y
  · have e0 : frL M n x y = [] := frL_3 h3
    rw [e0]
    clear e0
    go_enter Try.func34, Try.ntmps34
    go_wp2_with fail
    refine (C1 _ B0).mono ?_
    rintro e w1 ⟨rfl, hb⟩
    rw [h1]
    replace B0 := B0.trans (hb.mono B0.size)
    clear hb
    go_wp2_with fail
    refine (isTime_any _ _).mono ?_
    rintro e w' ⟨rfl, rfl⟩
    rw [h2]
    go_wp2_with fail
    refine (isTime_any _ _).mono ?_
    rintro e w' ⟨rfl, rfl⟩
    rw [h3]
    go_wp2_with fail
    go_ret
    exact ⟨_, rfl, (nil_int _ _), B0⟩
  rw [frL_t h1 h2 h3]
  have HOK : Hid (oks M n = true) := h1
  have hn8 := oks_le h1
  have ⟨hx0, hx1⟩ := okT_t h2
  have ⟨hy0, hy1⟩ := okT_t h3
  go_enter Try.func34, Try.ntmps34
  go_wp2_with fail
  refine (C1 _ B0).mono ?_
  rintro e w1 ⟨rfl, hb⟩
  rw [h1]
  replace B0 := B0.trans (hb.mono B0.size)
  clear hb
  go_wp2_with fail
  refine (isTime_any _ _).mono ?_
  rintro e w' ⟨rfl, rfl⟩
  rw [h2]
  go_wp2_with fail
  refine (isTime_any _ _).mono ?_
  rintro e w' ⟨rfl, rfl⟩
  rw [h3]
  clear C1 h1 h2 h3
  go_wp2_with fail
  go_loopw [7, 26] (fun v i wr => ∃ k : Nat, k ≤ n ∧ i = .int .i64 k ∧ wr.ownsRow w.heap.size 3 1 v (frs M x y k).length (irow (frs M x y k)) ∧ Below w.heap.size w wr) (fun _ i _ => n - (intOf i).toNat)
  case atStart => exact ⟨0, Nat.zero_le _, rfl, (nil_int _ _), B0⟩
  case round =>
    obtain ⟨k, hk, rfl, OW, hB⟩ := hrel
    by_cases hlt : k < n
    · obtain ⟨b, off, rfl, hf⟩ := HS.out.some (by omega)
      obtain ⟨x0, x1, x2, x3, x4, hM⟩ := tupPeer M k
      obtain ⟨c0, c1, c2, c3, c4⟩ := (hf.below hB hf.1).elPeer hlt hM
      have hat := okT_t (oks_p HOK.out hlt).2.2
      rw [hM] at hat
      have hat0 : 0 ≤ x3 := hat.1
      have hat1 : x3 ≤ 1000000000000 := hat.2
      have HFB : Hid (frB x y (M k) = decide (0 ≤ x - x3 ∧ x - x3 ≤ y)) := by rw [Hid, hM]; rfl
      have hli : (k : Int) < (n : Int) := by omega
      have hbr : b < wr.heap.size := Nat.lt_of_lt_of_le hf.1 hB.size
      have hln := frs_len M x y k
      have HY : Hid (frB x y (M k) = true → frs M x y (k + 1) = frs M x y k ++ [(k : Int)]) := frs_yes
      have HNn : Hid (frB x y (M k) = false → frs M x y (k + 1) = frs M x y k) := frs_no
      clear hM hat hf
      have hBs := hB.size
      generalize frs M x y k = L at *
      have A1 := Below.nw wr (.cells #[.int .i64 x0, .int .i64 x1, .int .i64 x2, .int .i64 x3, .bool x4] 51)
      have KB := Bx5.new wr (.int .i64 x0) (.int .i64 x1) (.int .i64 x2) (.int .i64 x3) (.bool x4) 51
      go_upto_region 7 with fail
      clear c0 c1 c2 c3 c4
      replace hB := hB.trans (A1.mono hB.size)
      replace OW := own_belK' OW A1
      replace hBs := hB.size
      clear hbr A1
      generalize hbk : wr.heap.size = bk at *
      generalize wr.alloc (.cells #[.int .i64 x0, .int .i64 x1, .int .i64 x2, .int .i64 x3, .bool x4] 51) = w1b at *
      obtain ⟨k9, k0, k1, k2, k3, k4, f0, f1, f2, f3, f4⟩ := id KB
      by_cases h4 : 0 ≤ x - x3
      · by_cases h5 : x - x3 ≤ y
        · have HT' : Hid (frs M x y (k + 1) = L ++ [(k : Int)]) := HY.out (by rw [HFB.out]; exact decide_eq_true ⟨h4, h5⟩)
          clear HY HNn HFB
          go_wp2_with (at_builtin; refine add_int rfl _ _ rfl w.heap.size L _ rfl OW rfl (by omega) (by omega) ?_; intro v' w9 O9 hg9 hn9)
          have HO9 : Hid (w9.ownsRow w.heap.size 3 1 v' (L ++ [(k : Int)]).length (irow (L ++ [(k : Int)]))) := O9
          have B9 := hB.trans (grown_belowK OW hg9 hBs)
          clear O9 OW hg9 hn9 hB k9 k0 k1 k2 k3 k4 f0 f1 f2 f3 f4 KB
          go_wp2_with fail
          go_roundw
          case rel => exact ⟨k + 1, by omega, by go_num, by rw [HT'.out]; exact HO9.out, B9⟩
          case measure => simp [intOf]; omega
        · have HT' : Hid (frs M x y (k + 1) = L) := HNn.out (by rw [HFB.out]; exact decide_eq_false (fun h => h5 h.2))
          clear HY HNn HFB
          go_wp2_with fail
          go_roundw
          case rel => exact ⟨k + 1, by omega, by go_num, by rw [HT'.out]; exact OW, hB⟩
          case measure => simp [intOf]; omega
      · have HT' : Hid (frs M x y (k + 1) = L) := HNn.out (by rw [HFB.out]; exact decide_eq_false (fun h => h4 h.1))
        clear HY HNn HFB
        go_wp2_with fail
        go_roundw
        case rel => exact ⟨k + 1, by omega, by go_num, by rw [HT'.out]; exact OW, hB⟩
        case measure => simp [intOf]; omega
    · have hkn : k = n := by omega
      subst hkn
      have hli : ¬ (k : Int) < (k : Int) := by omega
      obtain ⟨av, cv, rfl, _, _, _⟩ := ownF_src OW
      go_wp2_with fail
      go_ret
      exact ⟨_, rfl, OW, hB⟩
theorem implPeersFresh_any (a : Option Addr) (n c : Nat) (M : Nat → PT) (x y : Int) (w : World) (hm : n ≤ maxLen) (hs : SrcC w a (n * 5) (MFPeer M)) (wx : (Lit.int .i64 x).wf = true) (wy : (Lit.int .i64 y).wf = true) :
    Calls Try.prog 34 #[.slice a n c, .int .i64 x, .int .i64 y] w fun e w' => ∃ v, e = .returned v ∧ w'.ownsRow w.heap.size 3 1 v (frL M n x y).length (irow (frL M n x y)) ∧ Below w.heap.size w w' := implPeersFresh_w a n c M x y w hm hs
end Go.Proofs.Ytkeijldfblgeaaa
