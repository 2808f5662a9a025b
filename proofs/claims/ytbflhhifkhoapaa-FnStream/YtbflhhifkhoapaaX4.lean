/- One byte turned: its check is another. -/
import Derived.Test.YtbflhhifkhoapaaG11
import Derived.WalkKit
import Derived.WalkSpells
import Derived.WalkLawsBesides
import Derived.Deep.QuietTactic
import Derived.BigQuiet
namespace Go.Proofs.Ytbflhhifkhoapaa
open Go.RowKit
set_option linter.unusedVariables false
theorem xorN {a b : Int} (a0 : 0 ≤ a) (a1 : a ≤ 255) (b0 : 0 ≤ b) (b1 : b ≤ 255) : bits .xor .i64 a b = ((a.toNat ^^^ b.toNat : Nat) : Int) := by
  obtain ⟨m, rfl⟩ := Int.eq_ofNat_of_zero_le a0
  obtain ⟨n, rfl⟩ := Int.eq_ofNat_of_zero_le b0
  exact xor_i64 m n (by omega) (by omega)
theorem natXor_inj {a b c : Nat} (h : a ^^^ c = b ^^^ c) : a = b := by
  have e : (a ^^^ c) ^^^ c = (b ^^^ c) ^^^ c := by rw [h]
  rwa [Nat.xor_assoc, Nat.xor_assoc, Nat.xor_self, Nat.xor_zero, Nat.xor_zero] at e
theorem xor_injL {a b c : Int} (a0 : 0 ≤ a) (a1 : a ≤ 255) (b0 : 0 ≤ b) (b1 : b ≤ 255) (c0 : 0 ≤ c) (c1 : c ≤ 255) (h : bits .xor .i64 a c = bits .xor .i64 b c) : a = b := by
  rw [xorN a0 a1 c0 c1, xorN b0 b1 c0 c1] at h
  have := natXor_inj (Int.ofNat_inj.1 h)
  omega
theorem xor_injR {a b c : Int} (a0 : 0 ≤ a) (a1 : a ≤ 255) (b0 : 0 ≤ b) (b1 : b ≤ 255) (c0 : 0 ≤ c) (c1 : c ≤ 255) (h : bits .xor .i64 c a = bits .xor .i64 c b) : a = b := by
  rw [xorN c0 c1 a0 a1, xorN c0 c1 b0 b1, Nat.xor_comm, Nat.xor_comm c.toNat] at h
  have := natXor_inj (Int.ofNat_inj.1 h)
  omega
theorem xor7_odd {m : Nat} (h : m % 2 = 0) : (m ^^^ 7) % 2 = 1 := by
  have a : (m ^^^ 7).testBit 0 = true := by rw [Nat.testBit_xor, Nat.testBit_zero, Nat.testBit_zero, h]; rfl
  rw [Nat.testBit_zero] at a
  simpa using a
theorem dbl_inj {a b : Int} (a0 : 0 ≤ a) (a1 : a ≤ 255) (b0 : 0 ≤ b) (b1 : b ≤ 255) (h : dblI a = dblI b) : a = b := by
  have odd : ∀ z : Int, 0 ≤ z → z ≤ 255 → 255 < 2 * z → dblI z % 2 = 1 := by
    intro z z0 z1 hz
    rw [dblI_hi hz, xorN (by omega) (by omega) (by omega) (by omega)]
    have := xor7_odd (m := (2 * z % 256).toNat) (by omega)
    have e7 : (7 : Int).toNat = 7 := rfl
    rw [e7]
    omega
  by_cases ha : 255 < 2 * a
  · by_cases hb : 255 < 2 * b
    · rw [dblI_hi ha, dblI_hi hb] at h
      have := xor_injL (by omega) (by omega) (by omega) (by omega) (by omega) (by omega) h
      omega
    · have h1 := odd a a0 a1 ha
      rw [h, dblI_lo hb] at h1
      omega
  · by_cases hb : 255 < 2 * b
    · have h1 := odd b b0 b1 hb
      rw [← h, dblI_lo ha] at h1
      omega
    · rw [dblI_lo ha, dblI_lo hb] at h
      omega
theorem turn_inj {a b : Int} (a0 : 0 ≤ a) (a1 : a ≤ 255) (b0 : 0 ≤ b) (b1 : b ≤ 255) : ∀ k, turnI k a = turnI k b → a = b
  | 0, h => h
  | k + 1, h => by
    have x := turnI_bd a0 a1 k
    have y := turnI_bd b0 b1 k
    exact turn_inj a0 a1 b0 b1 k (dbl_inj x.1 x.2 y.1 y.2 h)
theorem chk_one {f g : Nat → Int} {n i : Nat} (hf : ∀ j, j < n → 0 ≤ f j ∧ f j ≤ 255) (hg : ∀ j, j < n → 0 ≤ g j ∧ g j ≤ 255) (hi : i < n) (hne : f i ≠ g i) (hs : ∀ j, j < n → j ≠ i → f j = g j) : chk f n ≠ chk g n := by
  induction n with
  | zero => omega
  | succ n ih =>
    intro e
    have cf := chk_bd (f := f) (n := n) (fun j hj => hf j (by omega))
    have cg := chk_bd (f := g) (n := n) (fun j hj => hg j (by omega))
    have bf := hf n (by omega)
    have bg := hg n (by omega)
    have x1 := xor_bd cf.1 cf.2 bf.1 bf.2
    have x2 := xor_bd cg.1 cg.2 bg.1 bg.2
    have q := turn_inj x1.1 x1.2 x2.1 x2.2 8 e
    by_cases h : i = n
    · subst h
      have same : chk f i = chk g i := chk_congr fun j hj => hs j (by omega) (by omega)
      rw [same] at q
      exact hne (xor_injR bf.1 bf.2 bg.1 bg.2 cg.1 cg.2 q)
    · have hn : f n = g n := hs n (by omega) (by omega)
      rw [hn] at q
      exact ih (fun j hj => hf j (by omega)) (fun j hj => hg j (by omega)) (by omega) (fun j hj hji => hs j (by omega) hji) (xor_injL cf.1 cf.2 cg.1 cg.2 bg.1 bg.2 q)
end Go.Proofs.Ytbflhhifkhoapaa
