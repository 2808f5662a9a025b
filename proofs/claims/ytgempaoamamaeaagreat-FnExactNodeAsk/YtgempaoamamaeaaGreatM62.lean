/- Contracts of spec.l7Copy and spec.l7Put. -/
import Derived.Test.YtgempaoamamaeaaGreatM10
import Derived.Test.YtgempaoamamaeaaGreatM60
namespace Go.Proofs.YtgempaoamamaeaaGreat
open Go.RowKit
set_option linter.unusedVariables false
theorem Bf4.kept {w w' : World} {o : Option Nat} {j : Nat} {x0 x1 x2 x3 : Int} (h : Bf4 w j x0 x1 x2 x3) (hg : w.grownBy w' o) (hne : some j ≠ o) : Bf4 w' j x0 x1 x2 x3 :=
  ⟨h.1.kept hg hne, by rw [froz_grown hg h.1.1 hne]; exact h.2.1, by rw [froz_grown hg h.1.1 hne]; exact h.2.2.1, by rw [froz_grown hg h.1.1 hne]; exact h.2.2.2.1, by rw [froz_grown hg h.1.1 hne]; exact h.2.2.2.2⟩
theorem own_cells3 {w : World} {base j n c : Nat} {a : Option Addr} {G : Nat → KT} {e u : Int} {u2 : Value} (h : w.ownsRow base 125 4 (.slice a (n + 1) c) (n + 1) (krow G (n + 1))) (hb : Bx3 w j (.int .i64 e) (.int .i64 u) u2) (h2 : ∀ k q, u2 ≠ .int k q) : ∀ g, (Value.slice a (n + 1) c).ownBlock = some g → g ≠ j := by
  intro g hg ej
  subst ej
  obtain ⟨a2, c2, e2, _, _, S⟩ := ownF_src h
  injection e2 with e2 e3 e4
  subst e2 e4
  rcases S with S | ⟨b, off, ha, hc⟩
  · omega
  · have := own_at h ha
    rw [hg] at this
    injection this with this
    subst this
    have hoff : off = 0 := by
      rcases h.2 with ⟨he, _⟩ | ⟨g', cap, cur, he, _⟩
      · simp at he
      · simp at he; rw [he.1] at ha; simp at ha; exact ha.2.symm
    subst hoff
    have q := hc.2 2 (by omega)
    rw [Nat.zero_add, hb.2.2.2.1] at q
    obtain ⟨x0, x1, x2, x3, hG⟩ := tupAsk G 0
    have v := (MFAsk_vals hG).2.2.1
    simp only [Nat.zero_mul, Nat.zero_add] at v
    rw [v] at q
    injection q with q
    exact h2 _ _ q
end Go.Proofs.YtgempaoamamaeaaGreat
