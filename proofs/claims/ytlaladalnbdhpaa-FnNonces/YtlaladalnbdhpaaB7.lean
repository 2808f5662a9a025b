/- The walk of the exact law of Reboot. -/
import Derived.Test.YtlaladalnbdhpaaB6
import Derived.Deep.RegionHeld3
import Derived.Deep.DeepCutAuto
import Derived.WalkKit
import Derived.WalkSpells
import Derived.WalkLawsBesides
import Derived.Deep.RegionHeld
namespace Go.Proofs.Ytlaladalnbdhpaa
open Go.RowKit
set_option linter.unusedVariables false
theorem ne_own {p q : Option Nat} (h : ∀ g, p = some g → q ≠ some g) : q = none ∨ q ≠ p := by
  cases q with
  | none => exact .inl rfl
  | some k => exact .inr fun e => h k e.symm rfl
theorem ne_own' {p q : Option Nat} (h : ∀ g, p = some g → q ≠ some g) (hp : p ≠ none) : p ≠ q := by
  cases p with
  | none => exact absurd rfl hp
  | some k => exact fun e => h k rfl e.symm
def RbIs (ep us : Int) (M : Nat → KT) (n : Nat) (x Xe Xu : Int) (mm : Nat) (G : Nat → KT) (C0 : Int) : Prop := Xe = rbE ep us M n x ∧ Xu = 0 ∧ mm = 0 ∧ C0 = rbC ep us M n x
theorem ansReboot (ep us : Int) (M : Nat → KT) (n : Nat) (x : Int) : ∃ Xe Xu mm G C0, RbIs ep us M n x Xe Xu mm G C0 ∧ mm ≤ 17 ∧ True := ⟨_, _, _, M, _, ⟨rfl, rfl, rfl, rfl⟩, by omega, trivial⟩
theorem implReboot_ans (ep us : Int) (b n c : Nat) (M : Nat → KT) (x Xe Xu : Int) (mm : Nat) (G : Nat → KT) (C0 : Int) (w : World) (hm : n ≤ maxLen) (hf : Cs w b 0 (n * 4) (MFAsk M)) (hw : ∀ i, i < n → (Lit.int .i64 (M i).1).wf = true) (wx : (Lit.int .i64 x).wf = true) (h : RbIs ep us M n x Xe Xu mm G C0) :
    Calls Try.prog 11 #[.agg #[.int .i64 ep, .int .i64 us, .slice (some ⟨b, 0, none⟩) n c], .int .i64 x] w fun e w' => ∃ a' c', e = .returned (.tuple #[.agg #[.int .i64 Xe, .int .i64 Xu, .slice a' mm c'], .int .i64 C0]) ∧ w'.ownsRow w.heap.size 34 4 (.slice a' mm c') mm (krow G mm) ∧ Below w.heap.size w w' := by
  obtain ⟨rfl, rfl, rfl, rfl⟩ := h
  exact implReboot_any ep us _ n c M x w hm (.inr ⟨b, 0, rfl, hf⟩) hw
end Go.Proofs.Ytlaladalnbdhpaa
