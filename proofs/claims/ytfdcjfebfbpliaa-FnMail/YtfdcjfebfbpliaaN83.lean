/- What NetCut leaves; the contract of spec.NetCut. -/
import Derived.Test.YtfdcjfebfbpliaaN73
import Derived.Deep.RegionHeld3
import Derived.Deep.DeepCutAuto
import Derived.WalkKit
import Derived.WalkSpells
import Derived.WalkLawsBesides
import Derived.Deep.RegionHeld
namespace Go.Proofs.Ytfdcjfebfbpliaa
open Go.RowKit
set_option linter.unusedVariables false
def cuB (nd : Int) (f : FT) : Bool := decide (f.2.1 = nd ∨ f.2.2.1 = nd)
def kc (M : Nat → FT) (nd : Int) : Nat → Nat
  | 0 => 0
  | k + 1 => if cuB nd (M k) = true then kc M nd k else kc M nd k + 1
def kF (M : Nat → FT) (nd : Int) : Nat → Nat → FT
  | 0 => fun _ => zF
  | k + 1 => if cuB nd (M k) = true then kF M nd k else fun j => if j = kc M nd k then M k else kF M nd k j
theorem kc_cut {M : Nat → FT} {nd : Int} {k : Nat} (h : cuB nd (M k) = true) : kc M nd (k + 1) = kc M nd k ∧ kF M nd (k + 1) = kF M nd k := ⟨by rw [kc, if_pos h], by rw [kF, if_pos h]⟩
theorem kc_keep {M : Nat → FT} {nd : Int} {k : Nat} (h : cuB nd (M k) = false) : kc M nd (k + 1) = kc M nd k + 1 ∧ kF M nd (k + 1) = fun j => if j = kc M nd k then M k else kF M nd k j := ⟨by rw [kc, if_neg (by rw [h]; decide)], by rw [kF, if_neg (by rw [h]; decide)]⟩
theorem kc_le (M : Nat → FT) (nd : Int) (k : Nat) : kc M nd k ≤ k := by
  induction k with
  | zero => exact Nat.le_refl _
  | succ k ih => rw [kc]; split <;> omega
theorem kc_mono {M : Nat → FT} {nd : Int} {k n : Nat} (h : k ≤ n) : kc M nd k ≤ kc M nd n := by
  induction n with
  | zero => rw [show k = 0 by omega]; exact Nat.le_refl _
  | succ n ih =>
    by_cases e : k = n + 1
    · rw [e]; exact Nat.le_refl _
    · have := ih (by omega)
      rw [kc]; split <;> omega
theorem kF_at {M : Nat → FT} {nd : Int} {q : Nat} (hq : cuB nd (M q) = false) : ∀ {n : Nat}, q < n → kF M nd n (kc M nd q) = M q := by
  intro n
  induction n with
  | zero => intro h; exact absurd h (Nat.not_lt_zero _)
  | succ k ih =>
    intro h
    cases hc : cuB nd (M k)
    · rw [(kc_keep hc).2]
      by_cases e : q = k
      · subst e; simp
      · have h1 := kc_mono (M := M) (nd := nd) (show q + 1 ≤ k by omega)
        rw [(kc_keep hq).1] at h1
        show (if kc M nd q = kc M nd k then M k else kF M nd k (kc M nd q)) = _
        rw [if_neg (by omega)]
        exact ih (by omega)
    · rw [(kc_cut hc).2]
      refine ih ?_
      by_cases e : q = k
      · subst e; rw [hq] at hc; cases hc
      · omega
theorem frow_keep {M : Nat → FT} {nd : Int} {k : Nat} {x0 x1 x2 : Int} {x3 : ByteArray} {x4 : Int} (h : cuB nd (M k) = false) (hM : M k = (x0, x1, x2, x3, x4)) : frow (kF M nd k) (kc M nd k) ++ [.int .i64 x0, .int .i64 x1, .int .i64 x2, .string x3, .int .i64 x4] = frow (kF M nd (k + 1)) (kc M nd k + 1) := by
  have e := (kc_keep h).2
  rw [frow_congr (G := kF M nd k) (H := kF M nd (k + 1)) (fun j hj => by rw [e]; show _ = (if j = kc M nd k then M k else kF M nd k j); rw [if_neg (by omega)])]
  exact frow_add (by rw [e]; show (if kc M nd k = kc M nd k then M k else _) = _; rw [if_pos rfl]; exact hM)
/- The program takes from the end on. -/
def bG (M : Nat → FT) (nd : Int) (n : Nat) : Nat → Nat × (Nat → FT)
  | 0 => (n, M)
  | d + 1 => if cuB nd (M (n - 1 - d)) = true then ((bG M nd n d).1 - 1, cutG (bG M nd n d).2 (n - 1 - d)) else bG M nd n d
theorem bG_ok (M : Nat → FT) (nd : Int) (n : Nat) : ∀ d, d ≤ n → (bG M nd n d).1 = (n - d) + (kc M nd n - kc M nd (n - d)) ∧ (∀ j, j < n - d → (bG M nd n d).2 j = M j) ∧ (∀ j, n - d ≤ j → j < (bG M nd n d).1 → (bG M nd n d).2 j = kF M nd n (kc M nd (n - d) + (j - (n - d)))) := by
  intro d
  induction d with
  | zero => intro _; exact ⟨by simp [bG], fun j _ => rfl, fun j h1 h2 => by simp [bG] at h1 h2; omega⟩
  | succ d ih =>
    intro hd
    obtain ⟨i1, i2, i3⟩ := ih (by omega)
    obtain ⟨q, hq⟩ : ∃ q, q = n - 1 - d := ⟨_, rfl⟩
    have e1 : n - d = q + 1 := by omega
    have e2 : n - (d + 1) = q := by omega
    rw [e1] at i1 i2 i3
    rw [e2, bG, ← hq]
    have hmo := kc_mono (M := M) (nd := nd) (show q + 1 ≤ n by omega)
    cases hc : cuB nd (M q)
    · rw [if_neg (by decide)]
      have hk := (kc_keep hc).1
      rw [hk] at i1 i3 hmo
      refine ⟨by rw [i1]; omega, fun j hj => i2 j (by omega), fun j h1 h2 => ?_⟩
      by_cases e : j = q
      · subst e
        rw [i2 j (by omega), show j - j = 0 by omega, Nat.add_zero]
        exact (kF_at hc (by omega)).symm
      · rw [i3 j (by omega) h2]
        congr 1
        omega
    · rw [if_pos rfl]
      have hk := (kc_cut hc).1
      rw [hk] at i1 i3 hmo
      refine ⟨by show (bG M nd n d).1 - 1 = _; rw [i1]; omega, fun j hj => by show cutG _ _ _ = _; rw [cutG, if_pos hj]; exact i2 j (by omega), fun j h1 h2 => ?_⟩
      show cutG _ _ _ = _
      rw [cutG, if_neg (by omega), i3 (j + 1) (by omega) (by simp only at h2; omega)]
      congr 1
      omega
theorem bG_end (M : Nat → FT) (nd : Int) (n : Nat) : (bG M nd n n).1 = kc M nd n ∧ ∀ j, j < kc M nd n → (bG M nd n n).2 j = kF M nd n j := by
  obtain ⟨i1, _, i3⟩ := bG_ok M nd n n (Nat.le_refl _)
  rw [Nat.sub_self] at i1 i3
  have z : kc M nd 0 = 0 := rfl
  rw [z] at i1 i3
  exact ⟨by omega, fun j hj => by rw [i3 j (Nat.zero_le _) (by omega)]; congr 1; omega⟩
def CuInv (nx nd : Int) (M : Nat → FT) (w : World) (b n c jo k : Nat) (wr : World) : Prop := ∃ vk : Value, B2 wr jo (.int .i64 nx) vk ∧ wr.ownsRow (jo + 1) 30 5 vk (kc M nd k) (frow (kF M nd k) (kc M nd k)) ∧ NB wr w.heap.size nx (some ⟨b, 0, none⟩) n c ∧ B2 wr (w.heap.size + 1) (.int .i64 0) (.slice none 0 0) ∧ Cs wr b 0 (n * 5) (MFFlight M) ∧ Below w.heap.size w wr
end Go.Proofs.Ytfdcjfebfbpliaa
