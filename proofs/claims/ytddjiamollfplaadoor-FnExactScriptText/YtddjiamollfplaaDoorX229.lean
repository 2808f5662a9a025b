/- ScriptText (the specification). -/
import Derived.Test.YtddjiamollfplaaDoorX228
import Derived.Test.YtddjiamollfplaaDoorX219
import Derived.Deep.OwnRows
import Derived.Deep.RegionHeld3
import Derived.WalkKit
import Derived.WalkSpells
import Derived.WalkLawsBesides
import Derived.Deep.RegionHeld
namespace Go.Proofs.YtddjiamollfplaaDoor
open Go.RowKit
set_option linter.unusedVariables false

def oL (x : OpD) : ByteArray := olO x.k x.nd x.tt x.a x.b x.tx x.n x.f
def oB (x : OpD) : Bool := opB x.k x.nd x.tt x.a x.b x.tx x.n x.f
theorem oL_size (x : OpD) : (oL x).size ≤ 400 := by
  have e1 : (⟨#[32]⟩ : ByteArray).size = 1 := rfl
  have e0 : (⟨#[]⟩ : ByteArray).size = 0 := rfl
  have hx := hexO_size x.tx
  have hn := nmK_size x.k
  unfold oL olO
  split
  · rename_i h
    have hl := (ol_facts h).2.2.1
    have q := lnL_size (opN x.k x.nd x.tt x.a x.b x.n x.f) (nmK x.k) (opN x.k x.nd x.tt x.a x.b x.n x.f).length
    unfold olB
    split
    · rw [ByteArray.size_append, ByteArray.size_append]; omega
    · omega
  · omega
/- The text of a script: the lines of its first k ops. -/
def scL (XM : Nat → OpD) : Nat → ByteArray
  | 0 => ⟨#[]⟩
  | k + 1 => (scL XM k ++ oL (XM k)) ++ ⟨#[10]⟩
theorem scL_size (XM : Nat → OpD) : ∀ k, (scL XM k).size ≤ 401 * k
  | 0 => by show (0 : Nat) ≤ _; omega
  | k + 1 => by
    have q := scL_size XM k
    have h := oL_size (XM k)
    have e1 : (⟨#[10]⟩ : ByteArray).size = 1 := rfl
    rw [scL, ByteArray.size_append, ByteArray.size_append]
    omega
def scB (XM : Nat → OpD) (n : Nat) : Bool := decide (n ≤ 200) && ((List.range n).all (fun i => oB (XM i)) && decide ((scL XM n).size ≤ 20000))
def scO (XM : Nat → OpD) (n : Nat) : ByteArray := if scB XM n then scL XM n else ⟨#[]⟩
theorem scB_long {XM : Nat → OpD} {n : Nat} (h : 200 < n) : scB XM n = false := by
  unfold scB
  rw [decide_eq_false (by omega), Bool.false_and]
theorem scB_bad {XM : Nat → OpD} {n k : Nat} (hk : k < n) (h : oB (XM k) = false) : scB XM n = false := by
  have e : (List.range n).all (fun i => oB (XM i)) = false := by
    rw [List.all_eq_false]
    exact ⟨k, List.mem_range.2 hk, by rw [h]; decide⟩
  unfold scB
  rw [e, Bool.false_and, Bool.and_false]
theorem scB_all {XM : Nat → OpD} {n : Nat} (hn : n ≤ 200) (h : ∀ i, i < n → oB (XM i) = true) : scB XM n = decide ((scL XM n).size ≤ 20000) := by
  have e : (List.range n).all (fun i => oB (XM i)) = true := by
    rw [List.all_eq_true]
    exact fun i hi => h i (List.mem_range.1 hi)
  unfold scB
  rw [e, decide_eq_true hn, Bool.true_and, Bool.true_and]
theorem scO_no {XM : Nat → OpD} {n : Nat} (h : scB XM n = false) : scO XM n = ⟨#[]⟩ := by unfold scO; rw [h]; rfl
theorem scO_yes {XM : Nat → OpD} {n : Nat} (h : scB XM n = true) : scO XM n = scL XM n := by unfold scO; rw [h]; rfl
theorem sc_ans_no {XM : Nat → OpD} {n : Nat} (h : scB XM n = false) : (Value.tuple #[.string ⟨#[]⟩, .bool false]) = .tuple #[.string (scO XM n), .bool (scB XM n)] := by rw [scO_no h, h]
theorem sc_ans_yes {XM : Nat → OpD} {n : Nat} (h : scB XM n = true) : (Value.tuple #[.string (scL XM n), .bool true]) = .tuple #[.string (scO XM n), .bool (scB XM n)] := by rw [scO_yes h, h]
theorem specLineS (A : Array Value) (x : OpD) (w : World) (h : OdS w A x) :
    Calls Tryd.prog 22 #[.agg A] w fun e w' => e = .returned (.tuple #[.string (oL x), .bool (oB x)]) ∧ Below w.heap.size w w' := by
  obtain ⟨p, c, rfl, hl, h1⟩ := h
  exact specOpLine_any x.k x.nd x.tt x.a x.b x.tx p x.n c x.f w hl.1 hl.2 h1
set_option maxHeartbeats 1000000 in
theorem specScript_long (a : Option Addr) (n c : Nat) (XM : Nat → OpD) (w : World) (hm : n ≤ maxLen) (hn : 200 < n) :
    Calls Tryd.prog 31 #[.slice a n c] w fun e w' => e = .returned (.tuple #[.string (scO XM n), .bool (scB XM n)]) ∧ Below w.heap.size w w' := by
  unfold maxLen at hm
  have hd : (200 : Int) < (n : Int) := by omega
  have HN : Hid (scB XM n = false) := scB_long hn
  go_enter Tryd.func31, Tryd.ntmps31
  go_wp2_with fail
  go_ret2
  exact ⟨congrArg _ (sc_ans_no HN.out), Below.refl _ _⟩
set_option maxHeartbeats 1000000 in
theorem specScript_zero (a : Option Addr) (c : Nat) (XM : Nat → OpD) (w : World) :
    Calls Tryd.prog 31 #[.slice a 0 c] w fun e w' => e = .returned (.tuple #[.string (scO XM 0), .bool (scB XM 0)]) ∧ Below w.heap.size w w' := by
  have HN : Hid (scB XM 0 = true) := by rw [scB_all (by omega) (fun i hi => absurd hi (Nat.not_lt_zero _))]; rfl
  go_enter Tryd.func31, Tryd.ntmps31
  go_wp2_with fail
  go_loopw [4, 5] (fun s i wr => i = .int .i64 0 ∧ s = .string ⟨#[]⟩ ∧ w = wr) (fun _ i _ => 0)
  case atStart => exact ⟨rfl, rfl, by first | rfl | trivial⟩
  case round =>
    obtain ⟨rfl, rfl, rfl⟩ := hrel
    go_wp2_with fail
    go_ret2
    exact ⟨congrArg _ (sc_ans_yes HN.out), Below.refl _ _⟩
attribute [-go_sem] loadCells storeCells in
set_option maxRecDepth 100000 in
set_option maxHeartbeats 8000000 in
theorem specScript_some (b off n c : Nat) (XM : Nat → OpD) (AM : Nat → Array Value) (w : World) (hn : n ≤ 200) (hc : CsP w b off n AM) (hq : ∀ i, i < n → OdS w (AM i) (XM i)) :
    Calls Tryd.prog 31 #[.slice (some ⟨b, off, none⟩) n c] w fun e w' => e = .returned (.tuple #[.string (scO XM n), .bool (scB XM n)]) ∧ Below w.heap.size w w' := by
  have HC : Hid (CsP w b off n AM) := hc
  have HQ : Hid (∀ i, i < n → OdS w (AM i) (XM i)) := hq
  have hd : ¬ (200 : Int) < (n : Int) := by omega
  clear hc hq
  go_enter Tryd.func31, Tryd.ntmps31
  go_wp2_with fail
  clear hd
  go_loopw [4, 5] (fun s i wr => ∃ k : Nat, k ≤ n ∧ i = .int .i64 k ∧ s = .string (scL XM k) ∧ (∀ i, i < k → oB (XM i) = true) ∧ Below w.heap.size w wr) (fun _ i _ => n - (intOf i).toNat)
  case atStart => exact ⟨0, Nat.zero_le _, rfl, rfl, fun i hi => absurd hi (Nat.not_lt_zero _), Below.refl _ _⟩
  case round =>
    obtain ⟨k, hk, rfl, rfl, hal, B⟩ := hrel
    have HA : Hid (∀ i, i < k → oB (XM i) = true) := hal
    clear hal
    have hzk := scL_size XM k
    by_cases hlt : k < n
    · have hx := HQ.out k hlt
      have hxs := hx.size
      have hL := (HC.out.below B).load (P := Tryd.prog) hlt hxs
      have hli : (k : Int) < (n : Int) := by omega
      have CT := specLineS (AM k) (XM k) wr (hx.below B)
      have ht := oL_size (XM k)
      have HB : Hid (oB (XM k) = false → scB XM n = false) := fun h => scB_bad hlt h
      have HK : Hid (oB (XM k) = true → ∀ i, i < k + 1 → oB (XM i) = true) := fun h i hi => by
        by_cases e : i = k
        · subst e; exact h
        · exact HA.out i (by omega)
      have HS : Hid ((scL XM k ++ oL (XM k)) ++ ⟨#[10]⟩ = scL XM (k + 1)) := rfl
      clear HA
      generalize AM k = Ak at *
      generalize oL (XM k) = ob at *
      generalize oB (XM k) = bb at *
      generalize scL XM k = sk at *
      have e10 : (⟨#[10]⟩ : ByteArray).size = 1 := rfl
      have hle1 : ¬ 9223372036854775807 < sk.size + ob.size := by omega
      have hle2 : ¬ 9223372036854775807 < sk.size + ob.size + 1 := by omega
      clear hx
      go_wp2_with (rw [hL])
      refine CT.mono ?_
      rintro e w2 ⟨rfl, hb⟩
      clear hL CT
      replace B := B.trans (hb.mono B.size)
      clear hb
      cases bb
      · go_wp2_with fail
        go_ret2
        exact ⟨congrArg _ (sc_ans_no (HB.out (by first | trivial | rfl))), B⟩
      · go_wp2_with fail
        go_roundw
        case rel => exact ⟨k + 1, by omega, by go_num, by first | (rw [← HS.out]; done) | (rw [← HS.out]; rfl), HK.out (by first | trivial | rfl), B⟩
        case measure => simp [intOf]; omega
    · have hkn : k = n := by omega
      subst hkn
      have hli : ¬ (k : Int) < (k : Int) := by omega
      have HN : Hid (scB XM k = decide ((scL XM k).size ≤ 20000)) := scB_all hn HA.out
      clear HA
      have HY : Hid (scB XM k = true → (Value.tuple #[.string (scL XM k), .bool true]) = .tuple #[.string (scO XM k), .bool (scB XM k)]) := sc_ans_yes
      have HZ : Hid (scB XM k = false → (Value.tuple #[.string ⟨#[]⟩, .bool false]) = .tuple #[.string (scO XM k), .bool (scB XM k)]) := sc_ans_no
      generalize scL XM k = sk at *
      by_cases hbig : (20000 : Int) < (sk.size : Int)
      · go_wp2_with fail
        go_ret2
        exact ⟨congrArg _ (HZ.out (by rw [HN.out]; exact decide_eq_false (by omega))), B⟩
      · go_wp2_with fail
        go_ret2
        exact ⟨congrArg _ (HY.out (by rw [HN.out]; exact decide_eq_true (by omega))), B⟩
theorem specScript_any (a : Option Addr) (n c : Nat) (XM : Nat → OpD) (w : World) (hm : n ≤ maxLen) (h : RwP OdS w a n XM) :
    Calls Tryd.prog 31 #[.slice a n c] w fun e w' => e = .returned (.tuple #[.string (scO XM n), .bool (scB XM n)]) ∧ Below w.heap.size w w' := by
  by_cases hn : 200 < n
  · exact specScript_long a n c XM w hm hn
  rcases h with rfl | ⟨b, off, AM, rfl, hc, hq⟩
  · exact specScript_zero a c XM w
  · exact specScript_some b off n c XM AM w (by omega) hc hq

end Go.Proofs.YtddjiamollfplaaDoor
