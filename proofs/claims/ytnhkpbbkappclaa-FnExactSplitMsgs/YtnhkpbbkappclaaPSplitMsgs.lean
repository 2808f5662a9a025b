/- For all bytes the program answers SplitMsgs as the specification does, and changes no byte; its answer is memory of its own; no condition. -/
import Derived.Test.YtnhkpbbkappclaaRows
import Derived.Test.YtnhkpbbkappclaaJ8
import Derived.WalkKit
import Derived.ProofKit
import Derived.OpenShut
import Derived.ShutString
import Derived.ChangeOld
import Derived.ChangeSame
import Derived.Below
import Derived.Lib.SmallJoins
import Derived.Deep.SlicePairs
import Derived.Deep.Slices
import Derived.Deep.Strs
namespace Go.Proofs.Ytnhkpbbkappclaa
open Go.ChangeShapes Go.WideShapes Go.ChangeAt Go.RowKit Go.Joins Go.Deep
open Go.ChangeMaps (open_string shut_string)
set_option linter.unusedVariables false
namespace FnExactSplitMsgsRow
theorem own : ownKnob Try.prog.godebug = none := by kernel_rfl
theorem laidOut : laidOutB Try.prog = true := by kernel_rfl
def ivOf (v : Value) : Int := match v with | .int _ z => z | _ => 0
theorem add_at (b off n : Nat) : (⟨b, off, none⟩ : Addr).add n = ⟨b, off + n, none⟩ := by
  unfold Addr.add
  split
  · next h => subst h; rfl
  · rfl
set_option maxRecDepth 100000 in
theorem lifted (os : Os) (started : os.Started) (H : Type) (enc : TypeId × Value → H) :
    ReturnsInHanded {} Try.checked os 6 .any (Rows.fnExactSplitMsgsSpec.pre6 enc Try.prog Try.f6 Rows.fnExactSplitMsgsRow.domain false) (Rows.fnExactSplitMsgsSpec.post enc Try.prog Try.f6 false true false false) := by
  refine returnsInHanded_of_change (C := Try.checked) own started (by kernel_rfl) Try.func6
    (ChangeSpec.witness6 (enc := enc) (C := Try.checked) false ⟨#[], #[.slice none 0 0], []⟩ 8 (by kernel_rfl) (by kernel_rfl) (by kernel_rfl) (by kernel_rfl)) ?_
  intro W base args ds gs before hval0 hW hcnd _
  have hval : ∀ (j : Nat) t v, Try.f6.params[j]? = some t → args[j]? = some v → Value.okWide Try.prog W .any base t v := hval0
  have hW' := hW
  obtain ⟨p, q, hA0, hV, rfl, hfz, hnd⟩ := hW
  have hA : DataW.TrodAll enc Try.prog W 0 (fun _ => true) true Try.f6.params.toList args.toList ds p := hA0
  rw [Try.params6] at hA hval
  obtain ⟨v0, vs0, d0, ds0, p0, q0, hargs, rfl, rfl, h0, r0⟩ := trodAll_cons hA
  obtain ⟨rfl, rfl, rfl⟩ := trodAll_nil r0
  obtain rfl : args = #[v0] := by cases args; simp_all
  obtain ⟨rfl, rfl⟩ := trodVars_none hV
  have k0 := h0
  have lt0 : ∀ x ∈ p0, x.block < W.heap.size := by obtain ⟨m, hm⟩ := k0; exact DataW.trod_lt m _ _ _ hm
  obtain ⟨a0, len0, cap0, rfl⟩ := okWide_slice Try.underlying27 (hval 0 27 v0 rfl rfl)
  have key0 : len0 ≤ maxLen ∧ ∃ f : Nat → Int, SrcB W a0 len0 f ∧ ∀ i, i < len0 → 0 ≤ f i ∧ f i ≤ 255 := by
    obtain ⟨fuel, hf⟩ := h0
    rcases open_ints Try.underlying27 Try.underlying5 (by kernel_rfl) hf with ⟨hcs, _⟩ | ⟨x, l, c, zs, hcs, _, hl, hm, hz, _, hcell, hwz⟩
    · simp [Value.cells] at hcs
      obtain ⟨rfl, rfl, rfl⟩ := hcs
      exact ⟨by simp [maxLen], fun _ => 0, .inl rfl, fun i hi => absurd hi (Nat.not_lt_zero _)⟩
    · simp [Value.cells] at hcs
      obtain ⟨rfl, rfl, rfl⟩ := hcs
      have hzl : zs.length = cap0 := by simpa using hz
      refine ⟨Nat.le_trans hl hm, fun i => zs.getD i 0, ?_, fun i hi => ?_⟩
      · by_cases hz0 : len0 = 0
        · exact .inl hz0
        · obtain ⟨b, off, spot⟩ := x
          have hspot : spot = none := by
            have := World.cell?_spot (hcell 0 (by omega))
            simpa [Addr.add] using this
          subst hspot
          have hblk : b < W.heap.size := by
            have := World.block_lt_of_cell? W _ (hcell 0 (by omega))
            simpa [Addr.add] using this
          refine .inr ⟨b, off, rfl, hblk, fun i hi => ?_⟩
          have e := hcell i (by omega)
          rw [add_at] at e
          exact e
      · have hb := range_u8 hwz i
        exact ⟨by simpa using hb.1, by simpa using hb.2⟩
  obtain ⟨hmax0, f0, hsrc0, hrng0⟩ := key0
  clear hA0 hval0
  refine (lawSplitMsgs a0 len0 cap0 f0 W hmax0 hsrc0 hrng0).mono fun e W' ⟨he, bel⟩ => ?_
  subst he
  exact ⟨_, rfl, _, _, _, [], _, [], hW', trodAll_mk1 (shut_bool Try.underlying4 _), (trodAll_cons_mk (Below.trod laidOut (by kernel_rfl) (of_decide_eq_true (by kernel_rfl)) k0 bel lt0) trodAll_mk0), rfl, bel.frame _, fun h => by cases h⟩
theorem over : Rows.fnExactSplitMsgsRow.holds Try.pinned (OpenSpec.ofChange Rows.fnExactSplitMsgsSpec) :=
  OpenClaim.holds_of_wide 6 Try.f6 rfl rfl rfl rfl rfl rfl rfl ⟨rfl, rfl, rfl, rfl, rfl⟩ rfl rfl rfl rfl rfl (by kernel_rfl) Try.func6 (by kernel_rfl)
    (of_decide_eq_true (by kernel_rfl)) (by unfold Func.isWrapper; first | (rw [if_pos (by decide +kernel)]; kernel_rfl) | (rw [if_neg (by decide +kernel)]; exact ⟨rfl, rfl⟩))
    (fun os started H enc _ => lifted os started H enc)
end FnExactSplitMsgsRow
theorem fnExactSplitMsgs_holds : Rows.FnExactSplitMsgsSaid := FnExactSplitMsgsRow.over
end Go.Proofs.Ytnhkpbbkappclaa
