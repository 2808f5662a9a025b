/- The list of an op, marked and held. A row of ops, marked and held. -/
import Derived.Test.YtddjiamollfplaaDoorMS0
import Derived.Test.YtddjiamollfplaaDoorMS42
namespace Go.Proofs.YtddjiamollfplaaDoor
open Go.RowKit
set_option linter.unusedVariables false

def mkN (q : Int) (j : Nat) : Int := q + (j : Int)
end Go.Proofs.YtddjiamollfplaaDoor
namespace Go.Proofs.YtddjiamollfplaaDoor
open Go.RowKit
set_option linter.unusedVariables false

def qX (XM : Nat → OpD) : Nat → Int
 | 0 => 1
 | i + 1 => qX XM i + 1 + 1 + 1 + 1 + 1 + 1 + ((XM i).n : Int)
theorem qX_le {XM : Nat → OpD} : ∀ n, (∀ i, i < n → (XM i).n ≤ 8) → 0 < qX XM n ∧ qX XM n ≤ 1 + (n : Int) * 14
 | 0, _ => ⟨(by decide : (0 : Int) < 1), (by decide : (1 : Int) ≤ 1 + ((0 : Nat) : Int) * 14)⟩
 | n + 1, h => by
  have q := qX_le n (fun i hi => h i (by omega))
  have h8 := h n (by omega)
  rw [qX]
  omega
def mkO (Q : Int) (n : Nat) : OpD := ⟨Q, Q + 1, Q + 1 + 1, Q + 1 + 1 + 1, Q + 1 + 1 + 1 + 1, txt (Q + 1 + 1 + 1 + 1 + 1), n, mkN (Q + 1 + 1 + 1 + 1 + 1 + 1)⟩
def eX (XM : Nat → OpD) (k i : Nat) : OpD := if i < k then mkO (qX XM i) (XM i).n else XM i
def OpsM (w : World) (g cap n : Nat) (XM : Nat → OpD) (PM : Nat → Option Addr) (CM : Nat → Nat) (k : Nat) : Prop := ∃ A : Array Value, Bo w g A ∧ A.size = cap * 7 ∧
 (∀ i, i < n → ∀ (j : Nat) u, (opV (eX XM k i) (PM i) (CM i))[j]? = some u → A[i * 7 + j]? = some u) ∧
 ∀ i, i < n → (XM i).n ≠ 0 → ∃ b, PM i = some ⟨b, 0, none⟩ ∧ b ≠ g ∧ RowF w b 3 (XM i).n (XM i).n (itG (eX XM k i).f)
theorem rowF_but {w w' : World} {b N m g : Nat} {T : TypeId} {F : Nat → Value} (h : RowF w b T N m F) (hb : But g w w') (hne : b ≠ g) : RowF w' b T N m F := by
 obtain ⟨G, hG, hj⟩ := h
 exact ⟨G, hG.of_block (hb.2.2.2.2 b hG.lt hne), hj⟩
theorem opV_lt {x : OpD} {p : Option Addr} {c j : Nat} {u : Value} (h : (opV x p c)[j]? = some u) : j < 7 := (Array.getElem?_eq_some_iff.1 h).1
theorem OpsM.step {wr w1 w3 : World} {g cap n k : Nat} {XM : Nat → OpD} {PM : Nat → Option Addr} {CM : Nat → Nat} {Q : Int} (h : OpsM wr g cap n XM PM CM k) (hk : k < n) (hn : n ≤ cap) (hd : ∀ i j, i < n → j < n → i ≠ j → (XM i).n ≠ 0 → (XM j).n ≠ 0 → PM i ≠ PM j) (hQ : Q = qX XM k)
 (hb : Below (putA wr g (k * 7) [.int .i64 (Q), .int .i64 (Q + 1), .int .i64 (Q + 1 + 1), .int .i64 (Q + 1 + 1 + 1), .int .i64 (Q + 1 + 1 + 1 + 1)]).heap.size (putA wr g (k * 7) [.int .i64 (Q), .int .i64 (Q + 1), .int .i64 (Q + 1 + 1), .int .i64 (Q + 1 + 1 + 1), .int .i64 (Q + 1 + 1 + 1 + 1)]) w1)
 (h3 : ((XM k).n = 0 ∧ putA w1 g (k * 7 + 5) [.string (txt (Q + 1 + 1 + 1 + 1 + 1))] = w3) ∨ ∃ b, PM k = some ⟨b, 0, none⟩ ∧ (XM k).n ≠ 0 ∧ But b (putA w1 g (k * 7 + 5) [.string (txt (Q + 1 + 1 + 1 + 1 + 1))]) w3 ∧ RowF w3 b 3 (XM k).n (XM k).n (mkInt (Q + 1 + 1 + 1 + 1 + 1 + 1))) : OpsM w3 g cap n XM PM CM (k + 1) := by
 obtain ⟨A, R, hA, hc, hl⟩ := h
 have hk7 : k * 7 + 7 ≤ A.size := by rw [hA]; have := Nat.mul_le_mul_right 7 (Nat.le_trans hk hn); rw [Nat.succ_mul] at this; exact this
 have R2 : Bo (putA w1 g (k * 7 + 5) [.string (txt (Q + 1 + 1 + 1 + 1 + 1))]) g (spl (spl A (k * 7) [.int .i64 (Q), .int .i64 (Q + 1), .int .i64 (Q + 1 + 1), .int .i64 (Q + 1 + 1 + 1), .int .i64 (Q + 1 + 1 + 1 + 1)]) (k * 7 + 5) [.string (txt (Q + 1 + 1 + 1 + 1 + 1))]) := Bo.put _ _ ((Bo.put [.int .i64 (Q), .int .i64 (Q + 1), .int .i64 (Q + 1 + 1), .int .i64 (Q + 1 + 1 + 1), .int .i64 (Q + 1 + 1 + 1 + 1)] (k * 7) R).below hb)
 have hs5 : (spl A (k * 7) [.int .i64 (Q), .int .i64 (Q + 1), .int .i64 (Q + 1 + 1), .int .i64 (Q + 1 + 1 + 1), .int .i64 (Q + 1 + 1 + 1 + 1)]).size = A.size := spl_size _ _ _
 have G : ∀ i, (spl (spl A (k * 7) [.int .i64 (Q), .int .i64 (Q + 1), .int .i64 (Q + 1 + 1), .int .i64 (Q + 1 + 1 + 1), .int .i64 (Q + 1 + 1 + 1 + 1)]) (k * 7 + 5) [.string (txt (Q + 1 + 1 + 1 + 1 + 1))])[i]? = if k * 7 + 5 ≤ i ∧ i < k * 7 + 5 + 1 then [.string (txt (Q + 1 + 1 + 1 + 1 + 1))][i - (k * 7 + 5)]? else if k * 7 ≤ i ∧ i < k * 7 + 5 then ([.int .i64 (Q), .int .i64 (Q + 1), .int .i64 (Q + 1 + 1), .int .i64 (Q + 1 + 1 + 1), .int .i64 (Q + 1 + 1 + 1 + 1)] : List Value)[i - k * 7]? else A[i]? := fun i => by
  rw [spl_get _ _ _ _ (by rw [hs5]; show k * 7 + 5 + 1 ≤ _; omega), spl_get _ _ _ _ (by show k * 7 + 5 ≤ _; omega)]
  rfl
 have hbk : ∀ b, PM k = some ⟨b, 0, none⟩ → (XM k).n ≠ 0 → b ≠ g := fun b e hn0 => by
  obtain ⟨b', e', hne, _⟩ := hl k hk hn0
  rw [e] at e'; cases e'; exact hne
 have hR3 : Bo w3 g (spl (spl A (k * 7) [.int .i64 (Q), .int .i64 (Q + 1), .int .i64 (Q + 1 + 1), .int .i64 (Q + 1 + 1 + 1), .int .i64 (Q + 1 + 1 + 1 + 1)]) (k * 7 + 5) [.string (txt (Q + 1 + 1 + 1 + 1 + 1))]) := by
  rcases h3 with ⟨_, h3⟩ | ⟨b, e, hn0, hb3, _⟩
  ·rw [← h3]; exact R2
  ·exact R2.but hb3 (fun e2 => hbk b e hn0 e2.symm)
 refine ⟨_, hR3, by rw [spl_size, hs5, hA], fun i hi j u hu => ?_, fun i hi hn0 => ?_⟩
 ·rw [G]
  have hj := opV_lt hu
  by_cases e : i = k
  ·subst e
   have hu2 : (opV (mkO Q (XM i).n) (PM i) (CM i))[j]? = some u := by
    have e2 : eX XM (i + 1) i = mkO Q (XM i).n := by rw [eX, if_pos (Nat.lt_succ_self i), hQ]
    rw [← e2]; exact hu
   have hu6 := hc i hi 6 (.slice (PM i) (XM i).n (CM i)) (by rw [eX, if_neg (Nat.lt_irrefl i)]; rfl)
   match j, hu2, hj with
   | 0, h, _ => rw [if_neg (by omega), if_pos (by omega), show i * 7 + 0 - i * 7 = 0 by omega]; exact h
   | 1, h, _ => rw [if_neg (by omega), if_pos (by omega), show i * 7 + 1 - i * 7 = 1 by omega]; exact h
   | 2, h, _ => rw [if_neg (by omega), if_pos (by omega), show i * 7 + 2 - i * 7 = 2 by omega]; exact h
   | 3, h, _ => rw [if_neg (by omega), if_pos (by omega), show i * 7 + 3 - i * 7 = 3 by omega]; exact h
   | 4, h, _ => rw [if_neg (by omega), if_pos (by omega), show i * 7 + 4 - i * 7 = 4 by omega]; exact h
   | 5, h, _ => rw [if_pos (by omega), show i * 7 + 5 - (i * 7 + 5) = 0 by omega]; exact h
   | 6, h, _ => rw [if_neg (by omega), if_neg (by omega), hu6]; exact h
  ·have e2 : eX XM (k + 1) i = eX XM k i := by
    unfold eX
    by_cases h1 : i < k
    ·rw [if_pos h1, if_pos (by omega)]
    ·rw [if_neg h1, if_neg (by omega)]
   rw [e2] at hu
   rw [if_neg (by omega), if_neg (by omega)]
   exact hc i hi j u hu
 ·by_cases e : i = k
  ·subst e
   rcases h3 with ⟨h0, _⟩ | ⟨b, e1, _, hb3, hr⟩
   ·exact absurd h0 hn0
   ·refine ⟨b, e1, hbk b e1 hn0, ?_⟩
    have e2 : eX XM (i + 1) i = mkO Q (XM i).n := by rw [eX, if_pos (Nat.lt_succ_self i), hQ]
    rw [e2]
    exact hr
  ·have e2 : eX XM (k + 1) i = eX XM k i := by
    unfold eX
    by_cases h1 : i < k
    ·rw [if_pos h1, if_pos (by omega)]
    ·rw [if_neg h1, if_neg (by omega)]
   rw [e2]
   obtain ⟨b, e1, hne, hr⟩ := hl i hi hn0
   have hr2 : RowF (putA w1 g (k * 7 + 5) [.string (txt (Q + 1 + 1 + 1 + 1 + 1))]) b 3 (XM i).n (XM i).n (itG (eX XM k i).f) := rowF_putA _ (fun e => hne e.symm) _ _ () ((rowF_putA _ (fun e => hne e.symm) _ _ () hr).below' hb)
   refine ⟨b, e1, hne, ?_⟩
   rcases h3 with ⟨_, h3⟩ | ⟨b', e3, hn1, hb3, _⟩
   ·rw [← h3]; exact hr2
   ·refine rowF_but hr2 hb3 (fun e4 => ?_)
    exact hd i k hi hk e hn0 hn1 (by rw [e1, e3, e4])
theorem markIntX_any (p : Option Addr) (n c : Nat) (q0 : Int) (w : World) (F : Nat → Value) (hn : n ≤ 1048576) (hq : 0 < q0) (hq1 : q0 ≤ 1073741824) (h : n ≠ 0 → ∃ b, p = some ⟨b, 0, none⟩ ∧ RowF w b 3 n n F) :
 Calls Tryd.prog 72 #[.slice p n c, .int .i64 q0] w fun e w' => e = .returned (.int .i64 (q0 + (n : Int))) ∧ ((n = 0 ∧ w = w') ∨ ∃ b, p = some ⟨b, 0, none⟩ ∧ n ≠ 0 ∧ But b w w' ∧ RowF w' b 3 n n (mkInt q0)) := by
 by_cases h0 : n = 0
 ·subst h0
  exact (markIntS_zero p c q0 w).mono fun e w' ⟨h1, h2⟩ => ⟨by rw [h1]; simp, .inl ⟨rfl, h2⟩⟩
 ·obtain ⟨b, rfl, hr⟩ := h h0
  exact (markIntS_row b n n c q0 w hn hq hq1 (Nat.le_refl _) (hr.zero _)).mono fun e w' ⟨r1, r2, r3⟩ => ⟨r1, .inr ⟨b, rfl, h0, r3, r2⟩⟩
set_option maxRecDepth 100000 in
set_option maxHeartbeats 16000000 in
theorem markOpS_some (g cap n base : Nat) (XM : Nat → OpD) (PM : Nat → Option Addr) (CM : Nat → Nat) (w : World) (hn : n ≤ 4096) (hnc : n ≤ cap) (h8 : ∀ i, i < n → (XM i).n ≤ 8) (hd : ∀ i j, i < n → j < n → i ≠ j → (XM i).n ≠ 0 → (XM j).n ≠ 0 → PM i ≠ PM j)
 (hg : base ≤ g) (hl : ∀ i, i < n → (XM i).n ≠ 0 → ∀ b, PM i = some ⟨b, 0, none⟩ → base ≤ b) (hbw : base ≤ w.heap.size) (h : OpsM w g cap n XM PM CM 0) :
 Calls Tryd.prog 37 #[.slice (some ⟨g, 0, none⟩) n cap, .int .i64 1] w fun e w' => e = .returned (.int .i64 (qX XM n)) ∧ OpsM w' g cap n XM PM CM n ∧ Below base w w' := by
 have H8 : Hid (∀ i, i < n → (XM i).n ≤ 8) := h8
 have HD : Hid (∀ i j, i < n → j < n → i ≠ j → (XM i).n ≠ 0 → (XM j).n ≠ 0 → PM i ≠ PM j) := hd
 have HL : Hid (∀ i, i < n → (XM i).n ≠ 0 → ∀ b, PM i = some ⟨b, 0, none⟩ → base ≤ b) := hl
 clear h8 hd hl
 go_enter Tryd.func37, Tryd.ntmps37
 go_wp2_with fail
 go_loopw [1, 5] (fun q i wr => ∃ (k : Nat) (Q : Int), k ≤ n ∧ i = .int .i64 k ∧ q = .int .i64 Q ∧ Q = qX XM k ∧ OpsM wr g cap n XM PM CM k ∧ Below base w wr) (fun _ i _ => n - (intOf i).toNat)
 case atStart => exact ⟨0, 1, Nat.zero_le _, rfl, rfl, rfl, h, Below.refl _ _⟩
 case round =>
  obtain ⟨k, Q, hk, rfl, rfl, hQ, M, hB⟩ := hrel
  clear h
  have HQ : Hid (Q = qX XM k) := hQ
  by_cases hlt : k < n
  ·have hli : (k : Int) < (n : Int) := by omega
   have hql := qX_le k (fun i hi => H8.out i (by omega))
   have Q0 : 0 < Q := by omega
   have Q1 : Q ≤ 60000 := by omega
   have HM : Hid (OpsM wr g cap n XM PM CM k) := M
   obtain ⟨A, R, hA, hc, hlr⟩ := M
   have hk7 : k * 7 + 7 ≤ A.size := by rw [hA]; have := Nat.mul_le_mul_right 7 (Nat.le_trans hlt hnc); rw [Nat.succ_mul] at this; exact this
   have HC : Hid (∀ (j : Nat) u, (opV (XM k) (PM k) (CM k))[j]? = some u → A[k * 7 + j]? = some u) := fun j u hu => hc k hlt j u (by rw [eX, if_neg (Nat.lt_irrefl k)]; exact hu)
   have h8k := H8.out k hlt
   have hgl := R.1
   have e0 := R.2.1 _ _ (HC.out 0 _ rfl)
   have e1 := R.2.1 _ _ (HC.out 1 _ rfl)
   have e2 := R.2.1 _ _ (HC.out 2 _ rfl)
   have e3 := R.2.1 _ _ (HC.out 3 _ rfl)
   have e4 := R.2.1 _ _ (HC.out 4 _ rfl)
   rw [Nat.add_zero] at e0
   have f0 := R.2.2 (k * 7) (by omega)
   have f1 := R.2.2 (k * 7 + 1) (by omega)
   have f2 := R.2.2 (k * 7 + 2) (by omega)
   have f3 := R.2.2 (k * 7 + 3) (by omega)
   have f4 := R.2.2 (k * 7 + 4) (by omega)
   have R1 : Bo (putA wr g (k * 7) [.int .i64 (Q), .int .i64 (Q + 1), .int .i64 (Q + 1 + 1), .int .i64 (Q + 1 + 1 + 1), .int .i64 (Q + 1 + 1 + 1 + 1)]) g (spl A (k * 7) [.int .i64 (Q), .int .i64 (Q + 1), .int .i64 (Q + 1 + 1), .int .i64 (Q + 1 + 1 + 1), .int .i64 (Q + 1 + 1 + 1 + 1)]) := Bo.put [.int .i64 (Q), .int .i64 (Q + 1), .int .i64 (Q + 1 + 1), .int .i64 (Q + 1 + 1 + 1), .int .i64 (Q + 1 + 1 + 1 + 1)] (k * 7) R
   have hs5 : (spl A (k * 7) [.int .i64 (Q), .int .i64 (Q + 1), .int .i64 (Q + 1 + 1), .int .i64 (Q + 1 + 1 + 1), .int .i64 (Q + 1 + 1 + 1 + 1)]).size = A.size := spl_size _ _ _
   have G5 : (spl A (k * 7) [.int .i64 (Q), .int .i64 (Q + 1), .int .i64 (Q + 1 + 1), .int .i64 (Q + 1 + 1 + 1), .int .i64 (Q + 1 + 1 + 1 + 1)])[k * 7 + 5]? = some (.string (XM k).tx) := by
    rw [spl_get _ _ _ _ (by show k * 7 + 5 ≤ _; omega), if_neg (by show ¬ (k * 7 ≤ k * 7 + 5 ∧ k * 7 + 5 < k * 7 + 5); omega)]
    exact HC.out 5 _ rfl
   have G6 : (spl A (k * 7) [.int .i64 (Q), .int .i64 (Q + 1), .int .i64 (Q + 1 + 1), .int .i64 (Q + 1 + 1 + 1), .int .i64 (Q + 1 + 1 + 1 + 1)])[k * 7 + 6]? = some (.slice (PM k) (XM k).n (CM k)) := by
    rw [spl_get _ _ _ _ (by show k * 7 + 5 ≤ _; omega), if_neg (by show ¬ (k * 7 ≤ k * 7 + 6 ∧ k * 7 + 6 < k * 7 + 5); omega)]
    exact HC.out 6 _ rfl
   have HR1 : Hid (Bo (putA wr g (k * 7) [.int .i64 (Q), .int .i64 (Q + 1), .int .i64 (Q + 1 + 1), .int .i64 (Q + 1 + 1 + 1), .int .i64 (Q + 1 + 1 + 1 + 1)]) g (spl A (k * 7) [.int .i64 (Q), .int .i64 (Q + 1), .int .i64 (Q + 1 + 1), .int .i64 (Q + 1 + 1 + 1), .int .i64 (Q + 1 + 1 + 1 + 1)]) ∧ (spl A (k * 7) [.int .i64 (Q), .int .i64 (Q + 1), .int .i64 (Q + 1 + 1), .int .i64 (Q + 1 + 1 + 1), .int .i64 (Q + 1 + 1 + 1 + 1)]).size = A.size ∧ (spl A (k * 7) [.int .i64 (Q), .int .i64 (Q + 1), .int .i64 (Q + 1 + 1), .int .i64 (Q + 1 + 1 + 1), .int .i64 (Q + 1 + 1 + 1 + 1)])[k * 7 + 5]? = some (.string (XM k).tx) ∧ (spl A (k * 7) [.int .i64 (Q), .int .i64 (Q + 1), .int .i64 (Q + 1 + 1), .int .i64 (Q + 1 + 1 + 1), .int .i64 (Q + 1 + 1 + 1 + 1)])[k * 7 + 6]? = some (.slice (PM k) (XM k).n (CM k))) := ⟨R1, hs5, G5, G6⟩
   have HLR : Hid (∀ i, i < n → (XM i).n ≠ 0 → ∃ b, PM i = some ⟨b, 0, none⟩ ∧ b ≠ g ∧ RowF wr b 3 (XM i).n (XM i).n (itG (eX XM k i).f)) := hlr
   have HS : Hid (k * 7 + 7 ≤ A.size) := hk7
   clear hQ hql hc hlr R R1 hs5 G5 G6 hk7 hA
   go_wp2_with fail
   refine (markText_any _ _ (by omega) (by omega)).mono ?_
   rintro e w1 ⟨rfl, hb⟩
   have HB : Hid (Below (putA wr g (k * 7) [.int .i64 (Q), .int .i64 (Q + 1), .int .i64 (Q + 1 + 1), .int .i64 (Q + 1 + 1 + 1), .int .i64 (Q + 1 + 1 + 1 + 1)]).heap.size (putA wr g (k * 7) [.int .i64 (Q), .int .i64 (Q + 1), .int .i64 (Q + 1 + 1), .int .i64 (Q + 1 + 1 + 1), .int .i64 (Q + 1 + 1 + 1 + 1)]) w1) := hb
   have hB1 : Below base w w1 := (putA_below (k := g) [.int .i64 (Q), .int .i64 (Q + 1), .int .i64 (Q + 1 + 1), .int .i64 (Q + 1 + 1 + 1), .int .i64 (Q + 1 + 1 + 1 + 1)] w wr (k * 7) hB hg).trans (HB.out.mono (by rw [putA_size]; exact Nat.le_trans hbw hB.size))
   clear e0 e1 e2 e3 e4 f0 f1 f2 f3 f4 hb hgl
   have R2 := HR1.out.1.below HB.out
   have hgl := R2.1
   have e5 := R2.2.1 _ _ HR1.out.2.2.1
   have e6 := R2.2.1 _ _ HR1.out.2.2.2
   have f5 := R2.2.2 (k * 7 + 5) (by rw [HR1.out.2.1]; have := HS.out; omega)
   have hne56 : (⟨g, k * 7 + 5, none⟩ : Addr) ≠ ⟨g, k * 7 + 6, none⟩ := by simp
   have CM2 := markIntX_any (PM k) (XM k).n (CM k) (Q + 1 + 1 + 1 + 1 + 1 + 1) (putA w1 g (k * 7 + 5) [.string (txt (Q + 1 + 1 + 1 + 1 + 1))]) (itG (XM k).f) (by omega) (by omega) (by omega) (fun hn0 => by
    obtain ⟨b, q1, q2, q3⟩ := HLR.out k hlt hn0
    rw [eX, if_neg (Nat.lt_irrefl k)] at q3
    exact ⟨b, q1, rowF_putA _ (fun e => q2 e.symm) _ _ () ((rowF_putA _ (fun e => q2 e.symm) _ _ () q3).below' HB.out)⟩)
   have hB2 : Below base w (putA w1 g (k * 7 + 5) [.string (txt (Q + 1 + 1 + 1 + 1 + 1))]) := putA_below (k := g) [.string (txt (Q + 1 + 1 + 1 + 1 + 1))] w w1 (k * 7 + 5) hB1 hg
   have HB2 : Hid (Below base w (putA w1 g (k * 7 + 5) [.string (txt (Q + 1 + 1 + 1 + 1 + 1))])) := hB2
   clear R2 hB hB1 hB2
   go_wp2_with fail
   refine CM2.mono ?_
   rintro e w3 ⟨rfl, h3⟩
   have M3 : OpsM w3 g cap n XM PM CM (k + 1) := HM.out.step hlt hnc HD.out HQ.out HB.out h3
   have B3 : Below base w w3 := by
    rcases h3 with ⟨_, h3⟩ | ⟨b, q1, hn0, hb3, _⟩
    ·rw [← h3]; exact HB2.out
    ·exact HB2.out.trans (hb3.below (HL.out k hlt hn0 b q1) (Nat.le_trans hbw HB2.out.size))
   have HQ2 : Hid (Q + 1 + 1 + 1 + 1 + 1 + 1 + ((XM k).n : Int) = qX XM (k + 1)) := by (show Q + 1 + 1 + 1 + 1 + 1 + 1 + ((XM k).n : Int) = qX XM (k + 1); rw [qX, ← HQ.out])
   clear CM2 e5 e6 f5 hne56 h3 hgl
   go_wp2_with fail
   go_roundw
   case rel => exact ⟨k + 1, _, by omega, by go_num, rfl, HQ2.out, M3, B3⟩
   case measure => simp [intOf]; omega
  ·have hkn : k = n := by omega
   subst hkn
   have hli : ¬ (k : Int) < (k : Int) := by omega
   subst hQ
   go_wp2_with fail
   go_ret
   exact ⟨rfl, M, hB⟩
set_option maxHeartbeats 400000 in
theorem markOpS_zero (a : Option Addr) (c : Nat) (w : World) :
 Calls Tryd.prog 37 #[.slice a 0 c, .int .i64 1] w fun e w' => e = .returned (.int .i64 1) ∧ w = w' := by
 go_enter Tryd.func37, Tryd.ntmps37
 go_wp2_with fail
 go_loopw [1, 5] (fun q i wr => i = .int .i64 0 ∧ q = .int .i64 1 ∧ w = wr) (fun _ i _ => 0)
 case atStart => exact ⟨rfl, rfl, by first | rfl | trivial⟩
 case round =>
  obtain ⟨rfl, rfl, rfl⟩ := hrel
  go_wp2_with fail
  go_ret
  exact ⟨rfl, rfl⟩
set_option maxRecDepth 100000 in
set_option maxHeartbeats 16000000 in
theorem heldOpS_some (g cap n : Nat) (XM : Nat → OpD) (PM : Nat → Option Addr) (CM : Nat → Nat) (w : World) (hn : n ≤ 4096) (h8 : ∀ i, i < n → (XM i).n ≤ 8) (hgw : g < w.heap.size)
 (h : ∀ i, i < n → ∀ (j : Nat) u, (opV (mkO (qX XM i) (XM i).n) (PM i) (CM i))[j]? = some u → w.cell? ⟨g, i * 7 + j, none⟩ = some u) (hl : ∀ i, i < n → SrcC w (PM i) (XM i).n (mkInt (qX XM i + 1 + 1 + 1 + 1 + 1 + 1))) :
 Calls Tryd.prog 38 #[.slice (some ⟨g, 0, none⟩) n cap, .int .i64 1] w fun e w' => e = .returned (.int .i64 (qX XM n)) ∧ Below w.heap.size w w' := by
 have H8 : Hid (∀ i, i < n → (XM i).n ≤ 8) := h8
 have HH : Hid (∀ i, i < n → ∀ (j : Nat) u, (opV (mkO (qX XM i) (XM i).n) (PM i) (CM i))[j]? = some u → w.cell? ⟨g, i * 7 + j, none⟩ = some u) := h
 have HL : Hid (∀ i, i < n → SrcC w (PM i) (XM i).n (mkInt (qX XM i + 1 + 1 + 1 + 1 + 1 + 1))) := hl
 clear h8 h hl
 go_enter Tryd.func38, Tryd.ntmps38
 go_wp2_with fail
 go_loopw [1, 5] (fun q i wr => ∃ (k : Nat) (Q : Int), k ≤ n ∧ i = .int .i64 k ∧ q = .int .i64 Q ∧ Q = qX XM k ∧ Below w.heap.size w wr) (fun _ i _ => n - (intOf i).toNat)
 case atStart => exact ⟨0, 1, Nat.zero_le _, rfl, rfl, rfl, Below.refl _ _⟩
 case round =>
  obtain ⟨k, Q, hk, rfl, rfl, hQ, hB⟩ := hrel
  have HQ : Hid (Q = qX XM k) := hQ
  by_cases hlt : k < n
  ·have hli : (k : Int) < (n : Int) := by omega
   have hql := qX_le k (fun i hi => H8.out i (by omega))
   have Q0 : 0 < Q := by omega
   have Q1 : Q ≤ 60000 := by omega
   have HC : Hid (∀ (j : Nat) u, (opV (mkO Q (XM k).n) (PM k) (CM k))[j]? = some u → w.cell? ⟨g, k * 7 + j, none⟩ = some u) := fun j u hu => HH.out k hlt j u (by rw [← HQ.out]; exact hu)
   have h8k := H8.out k hlt
   have CL := fun (v : World) (hv : Below w.heap.size w v) => heldIntS_any (PM k) (XM k).n (CM k) (Q + 1 + 1 + 1 + 1 + 1 + 1) v (by omega) (by omega) (by omega) (by rw [Nat.mul_one]; have q := (HL.out k hlt).below hv; rw [← HQ.out] at q; exact q)
   have HQ2 : Hid (Q + 1 + 1 + 1 + 1 + 1 + 1 + ((XM k).n : Int) = qX XM (k + 1)) := by (show Q + 1 + 1 + 1 + 1 + 1 + 1 + ((XM k).n : Int) = qX XM (k + 1); rw [qX, ← HQ.out])
   have hgl : g < wr.heap.size := Nat.lt_of_lt_of_le hgw hB.size
   clear hQ hql
   have c0 : wr.cell? ⟨g, k * 7, none⟩ = some (.int .i64 (Q)) := (hB.cell (p := ⟨g, k * 7, none⟩) hgw).trans (HC.out 0 _ rfl)
   have c1 : wr.cell? ⟨g, k * 7 + 1, none⟩ = some (.int .i64 (Q + 1)) := (hB.cell (p := ⟨g, k * 7 + 1, none⟩) hgw).trans (HC.out 1 _ rfl)
   have c2 : wr.cell? ⟨g, k * 7 + 2, none⟩ = some (.int .i64 (Q + 1 + 1)) := (hB.cell (p := ⟨g, k * 7 + 2, none⟩) hgw).trans (HC.out 2 _ rfl)
   have c3 : wr.cell? ⟨g, k * 7 + 3, none⟩ = some (.int .i64 (Q + 1 + 1 + 1)) := (hB.cell (p := ⟨g, k * 7 + 3, none⟩) hgw).trans (HC.out 3 _ rfl)
   have c4 : wr.cell? ⟨g, k * 7 + 4, none⟩ = some (.int .i64 (Q + 1 + 1 + 1 + 1)) := (hB.cell (p := ⟨g, k * 7 + 4, none⟩) hgw).trans (HC.out 4 _ rfl)
   have c5 : wr.cell? ⟨g, k * 7 + 5, none⟩ = some (.string (txt (Q + 1 + 1 + 1 + 1 + 1))) := (hB.cell (p := ⟨g, k * 7 + 5, none⟩) hgw).trans (HC.out 5 _ rfl)
   have c6 : wr.cell? ⟨g, k * 7 + 6, none⟩ = some (.slice (PM k) (XM k).n (CM k)) := (hB.cell (p := ⟨g, k * 7 + 6, none⟩) hgw).trans (HC.out 6 _ rfl)
   have SK : Hid (∀ w', Below wr.heap.size wr w' → (fun w' => w'.cell? ⟨g, k * 7 + 5, none⟩ = some (.string (txt (Q + 1 + 1 + 1 + 1 + 1)))) w') := fun w' hw => (hw.cell (p := ⟨g, k * 7 + 5, none⟩) hgl).trans c5
   go_wp2_with fail
   refine wp_region_held_drew (S := (fun w' => w'.cell? ⟨g, k * 7 + 5, none⟩ = some (.string (txt (Q + 1 + 1 + 1 + 1 + 1))))) (by kernel_rfl) ?_ (fun hHeld => ?_)
   ·first | exact SK.out _ XB | exact SK.out _ (Below.drew (Below.refl _ _))
   have XB : Below wr.heap.size wr wr.drew := Below.drew (Below.refl _ _)
   generalize wr.drew = vx at *
   refine zTk 0 ?_
   refine zTk 1 ?_
   refine zTk 2 ?_
   refine zTk 3 ?_
   refine zTk 4 ?_
   refine zTk 5 ?_
   refine wpAnyH_ready (rs := [6]) (by kernel_rfl) (by simp) ?_
   refine AllReadyH.cons (by rw [List.getElem?_toArray]; rfl) (fun K hK => ?_) AllReadyH.nil
   go_simp
   refine (markText_any _ _ (by omega) (by omega)).mono ?_; rintro e vx ⟨rfl, hbl⟩; (replace XB := XB.trans (hbl.mono XB.size)); (clear hbl)
   (try go_wp2_with fail)
   refine hK.out _ _ ?_ (fun hHeld => ?_)
   ·first | exact SK.out _ XB | exact SK.out _ (Below.drew (Below.refl _ _))
   clear hK K
   (try simp only [Act.put, zSb, zS0, zS1])
   refine zTk 7 ?_
   refine wpAnyH_done (by kernel_rfl) ?_ _
   have c6x : vx.cell? ⟨g, k * 7 + 6, none⟩ = some (.slice (PM k) (XM k).n (CM k)) := (XB.cell (p := ⟨g, k * 7 + 6, none⟩) hgl).trans c6
   have B2 := hB.trans (XB.mono hB.size)
   have hgx : g < vx.heap.size := Nat.lt_of_lt_of_le hgl XB.size
   have CX := CL vx B2
   rw [Int.mul_one] at CX
   clear c0 c1 c2 c3 c4 c5 c6 CL SK XB hgl
   generalize txt (Q + 1 + 1 + 1 + 1 + 1) = tx5 at *
   have h0 : ¬ Q + 1 + 1 + 1 + 1 + 1 + 1 + ((XM k).n : Int) < 0 := by omega
   go_wp2_with fail
   refine CX.mono ?_
   rintro e w3 ⟨rfl, rfl⟩
   clear CX c6x
   go_wp2_with fail
   go_roundw
   case rel => exact ⟨k + 1, _, by omega, by go_num, rfl, HQ2.out, B2⟩
   case measure => simp [intOf]; omega
  ·have hkn : k = n := by omega
   subst hkn
   have hli : ¬ (k : Int) < (k : Int) := by omega
   subst hQ
   go_wp2_with fail
   go_ret
   exact ⟨rfl, hB⟩
set_option maxHeartbeats 400000 in
theorem heldOpS_zero (a : Option Addr) (c : Nat) (w : World) :
 Calls Tryd.prog 38 #[.slice a 0 c, .int .i64 1] w fun e w' => e = .returned (.int .i64 1) ∧ w = w' := by
 go_enter Tryd.func38, Tryd.ntmps38
 go_wp2_with fail
 go_loopw [1, 5] (fun q i wr => i = .int .i64 0 ∧ q = .int .i64 1 ∧ w = wr) (fun _ i _ => 0)
 case atStart => exact ⟨rfl, rfl, by first | rfl | trivial⟩
 case round =>
  obtain ⟨rfl, rfl, rfl⟩ := hrel
  go_wp2_with fail
  go_ret
  exact ⟨rfl, rfl⟩
def HdR (w : World) (a : Option Addr) (n : Nat) (XM : Nat → OpD) : Prop := n = 0 ∨ ∃ (g : Nat) (PM : Nat → Option Addr) (CM : Nat → Nat), a = some ⟨g, 0, none⟩ ∧ g < w.heap.size ∧ (∀ i, i < n → ∀ (j : Nat) u, (opV (mkO (qX XM i) (XM i).n) (PM i) (CM i))[j]? = some u → w.cell? ⟨g, i * 7 + j, none⟩ = some u) ∧ ∀ i, i < n → SrcC w (PM i) (XM i).n (mkInt (qX XM i + 1 + 1 + 1 + 1 + 1 + 1))
theorem HdR.below {w w' : World} {a : Option Addr} {n : Nat} {XM : Nat → OpD} (h : HdR w a n XM) (hb : Below w.heap.size w w') : HdR w' a n XM := by
 rcases h with h | ⟨g, PM, CM, e, hg, h1, h2⟩
 ·exact .inl h
 ·exact .inr ⟨g, PM, CM, e, Nat.lt_of_lt_of_le hg hb.size, fun i hi j u hu => by rw [hb.cell (p := ⟨g, i * 7 + j, none⟩) hg]; exact h1 i hi j u hu, fun i hi => (h2 i hi).below hb⟩
theorem OpsR.n8 {rf : Bool} {w : World} {base : Nat} {v : Value} {n : Nat} {XM : Nat → OpD} (h : OpsR rf w base v n XM) : ∀ i, i < n → (XM i).n ≤ 8 := by
 obtain ⟨_, _, _, h2, _⟩ := h
 exact fun i hi => (h2 i hi).2.1
theorem markOpS_any (base n : Nat) (a : Option Addr) (c : Nat) (XM : Nat → OpD) (w : World) (hn : n ≤ 4096) (hbw : base ≤ w.heap.size) (h : OpsR true w base (.slice a n c) n XM) :
 Calls Tryd.prog 37 #[.slice a n c, .int .i64 1] w fun e w' => e = .returned (.int .i64 (qX XM n)) ∧ HdR w' a n XM ∧ Below base w w' := by
 by_cases h0 : n = 0
 ·subst h0
  exact (markOpS_zero a c w).mono fun e w' ⟨h1, h2⟩ => ⟨h1, .inl rfl, h2 ▸ Below.refl _ _⟩
 ·obtain ⟨PM, CM, h1, h2, h3⟩ := h
  have hlt := World.ownsRow.lt h1
  rcases h1.2 with ⟨e, e0⟩ | ⟨g, cap, cur, e, b1, b2, b3, b4, b5, b6⟩
  ·exact absurd e0 h0
  ·cases e
   have hbo : Bo w g cur := ⟨(Array.getElem?_eq_some_iff.1 b2).1, fun i u hi => by simp [World.cell?, b2, hi], fun i hi => by simp [World.frozen?, b2]⟩
   have hM : OpsM w g c n XM PM CM 0 := by
    refine ⟨cur, hbo, b5, fun i hi j u hu => ?_, fun i hi hn0 => ?_⟩
    ·have e0 : eX XM 0 i = XM i := by rw [eX, if_neg (Nat.not_lt_zero i)]
     rw [e0] at hu
     have q := flA_at n (fun i _ => opM_size XM PM CM i) i hi j u hu
     rw [← b6, List.getElem?_take] at q
     split at q
     ·simpa using q
     ·cases q
    ·have e0 : eX XM 0 i = XM i := by rw [eX, if_neg (Nat.not_lt_zero i)]
     rw [e0]
     obtain ⟨q1, q2, q3, q4⟩ := h2 i hi
     rcases q3 with q3 | ⟨b, p1, p2, p3, p4, p5⟩
     ·exact absurd q3 hn0
     ·exact ⟨b, p1, fun e => q4 b p1 hn0 (by rw [e]; rfl), p5 rfl⟩
   refine (markOpS_some g c n base XM PM CM w hn b3 (fun i hi => (h2 i hi).2.1) h3 b1 (fun i hi hn0 b e => ?_) hbw hM).mono fun e w' ⟨r1, r2, r3⟩ => ⟨r1, .inr ⟨g, PM, CM, rfl, ?_, ?_, ?_⟩, r3⟩
   ·obtain ⟨b', p1, p2, _⟩ := (h2 i hi).2.2.1.at hn0
    rw [e] at p1; cases p1; exact p2
   ·obtain ⟨A, hA, _⟩ := r2
    exact hA.1
   ·obtain ⟨A, hA, _, hc, _⟩ := r2
    intro i hi j u hu
    exact hA.2.1 _ _ (hc i hi j u (by rw [eX, if_pos hi]; exact hu))
   ·obtain ⟨A, hA, _, _, hl⟩ := r2
    intro i hi
    by_cases hn0 : (XM i).n = 0
    ·exact .inl hn0
    ·obtain ⟨b, p1, p2, p3⟩ := hl i hi hn0
     rw [eX, if_pos hi] at p3
     exact .inr ⟨b, 0, p1, p3.cs (Nat.le_refl _)⟩
theorem heldOpS_any (a : Option Addr) (n c : Nat) (XM : Nat → OpD) (w : World) (hn : n ≤ 4096) (h8 : ∀ i, i < n → (XM i).n ≤ 8) (h : HdR w a n XM) :
 Calls Tryd.prog 38 #[.slice a n c, .int .i64 1] w fun e w' => e = .returned (.int .i64 (qX XM n)) ∧ Below w.heap.size w w' := by
 by_cases h0 : n = 0
 ·subst h0
  exact (heldOpS_zero a c w).mono fun e w' ⟨h1, h2⟩ => ⟨h1, h2 ▸ Below.refl _ _⟩
 ·rcases h with h | ⟨g, PM, CM, rfl, hg, h1, h2⟩
  ·exact absurd h h0
  ·exact heldOpS_some g c n XM PM CM w hn h8 hg h1 h2

end Go.Proofs.YtddjiamollfplaaDoor
