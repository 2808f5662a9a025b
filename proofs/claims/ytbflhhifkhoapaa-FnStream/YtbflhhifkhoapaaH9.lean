/- What catches a reader that gives up. -/
import Derived.Test.YtbflhhifkhoapaaH8
import Derived.WalkKit
import Derived.WalkSpells
import Derived.WalkLawsBesides
import Derived.Deep.RegionHeld
namespace Go.Proofs.Ytbflhhifkhoapaa
open Go.RowKit
set_option linter.unusedVariables false
theorem cell_far (w : World) (j o k q : Nat) (u : Value) (h : j ≠ k) : (w.setCell ⟨j, o, none⟩ u).cell? ⟨k, q, none⟩ = w.cell? ⟨k, q, none⟩ := World.cell?_setCell_other _ _ _ _ (by intro e; exact h (congrArg Addr.block e))
set_option maxHeartbeats 4000000 in
theorem catch_gave (pm pc : Nat) (k fr to no lo hi sl : Int) (s : ByteArray) (c x : Int) (older : List PanicEntry) (w : World) (hB : Box8 w pm k fr to no lo hi sl s) (hT : Thaw8 w pm) (hc : w.cell? ⟨pc, 0, none⟩ = some (.int .i64 x)) (hz : w.frozen? ⟨pc, 0, none⟩ = false) (hne : pm ≠ pc) :
    CallsD Try.prog 43 #[.pointer (some ⟨pm, 0, none⟩), .pointer (some ⟨pc, 0, none⟩)] (.panicking ({ v := .iface 97 (.int .i64 c), recovered := false } :: older)) w fun e u' w' =>
      e = .returned (.tuple #[]) ∧ u' = .panicking ({ v := .iface 97 (.int .i64 c), recovered := true } :: older) ∧ Box8 w' pm 0 0 0 0 0 0 0 ⟨#[]⟩ ∧ w'.cell? ⟨pc, 0, none⟩ = some (.int .i64 c) ∧ (∀ B, B ≤ pm → B ≤ pc → Below B w w') := by
  refine callsD_of_wpS Try.func43 rfl fun c₀ cs hu => ?_
  apply wpS_seq
  apply wpS_region
  simp [wpOpsS, go_sem, recoverD, hu, Try.ntmps43, Exit.thenS]
  refine wpS_of_wp ?_
  obtain ⟨b0, b1, b2, b3, b4, b5, b6, b7, b8⟩ := id hB
  obtain ⟨s0, s1, s2, s3, s4, s5, s6, s7⟩ := id hT
  have hne' : pc ≠ pm := hne.symm
  show Code.wp _ _ _ { tmps := #[.pointer (some ⟨pm, 0, none⟩), .pointer (some ⟨pc, 0, none⟩), .iface 97 (.int .i64 c), .iface 97 (.int .i64 c), undef, undef, undef, undef, undef], defers := [] } _
  go_wp2_with fail
  refine (codeOf_any c _).mono ?_
  rintro e w' ⟨rfl, rfl⟩
  go_wp2_with fail
  have RF := Box8.setO ((((((((hB.set0 0).set1 0).set2 0).set3 0).set4 0).set5 0).set6 0).set7 ⟨#[]⟩) hne' 0 (.int .i64 c)
  have CF : (((((((((w.setCell ⟨pm, 0, none⟩ (.int .i64 0)).setCell ⟨pm, 1, none⟩ (.int .i64 0)).setCell ⟨pm, 2, none⟩ (.int .i64 0)).setCell ⟨pm, 3, none⟩ (.int .i64 0)).setCell ⟨pm, 4, none⟩ (.int .i64 0)).setCell ⟨pm, 5, none⟩ (.int .i64 0)).setCell ⟨pm, 6, none⟩ (.int .i64 0)).setCell ⟨pm, 7, none⟩ (.string ⟨#[]⟩)).setCell ⟨pc, 0, none⟩ (.int .i64 c)).cell? ⟨pc, 0, none⟩ = some (.int .i64 c) := World.cell?_setCell_same _ _ _ (show ((((((((w.setCell ⟨pm, 0, none⟩ (.int .i64 0)).setCell ⟨pm, 1, none⟩ (.int .i64 0)).setCell ⟨pm, 2, none⟩ (.int .i64 0)).setCell ⟨pm, 3, none⟩ (.int .i64 0)).setCell ⟨pm, 4, none⟩ (.int .i64 0)).setCell ⟨pm, 5, none⟩ (.int .i64 0)).setCell ⟨pm, 6, none⟩ (.int .i64 0)).setCell ⟨pm, 7, none⟩ (.string ⟨#[]⟩)).cell? ⟨pc, 0, none⟩ = some (.int .i64 x) by
    rw [cell_far _ _ _ _ _ _ hne, cell_far _ _ _ _ _ _ hne, cell_far _ _ _ _ _ _ hne, cell_far _ _ _ _ _ _ hne, cell_far _ _ _ _ _ _ hne, cell_far _ _ _ _ _ _ hne, cell_far _ _ _ _ _ _ hne, cell_far _ _ _ _ _ _ hne]; exact hc)
  have BF : ∀ B, B ≤ pm → B ≤ pc → Below B w (((((((((w.setCell ⟨pm, 0, none⟩ (.int .i64 0)).setCell ⟨pm, 1, none⟩ (.int .i64 0)).setCell ⟨pm, 2, none⟩ (.int .i64 0)).setCell ⟨pm, 3, none⟩ (.int .i64 0)).setCell ⟨pm, 4, none⟩ (.int .i64 0)).setCell ⟨pm, 5, none⟩ (.int .i64 0)).setCell ⟨pm, 6, none⟩ (.int .i64 0)).setCell ⟨pm, 7, none⟩ (.string ⟨#[]⟩)).setCell ⟨pc, 0, none⟩ (.int .i64 c)) := fun B h1 h2 => ((((((((((Below.refl B w).setCell h1 _).setCell h1 _).setCell h1 _).setCell h1 _).setCell h1 _).setCell h1 _).setCell h1 _).setCell h1 _).setCell h2 _)
  generalize (((((((((w.setCell ⟨pm, 0, none⟩ (.int .i64 0)).setCell ⟨pm, 1, none⟩ (.int .i64 0)).setCell ⟨pm, 2, none⟩ (.int .i64 0)).setCell ⟨pm, 3, none⟩ (.int .i64 0)).setCell ⟨pm, 4, none⟩ (.int .i64 0)).setCell ⟨pm, 5, none⟩ (.int .i64 0)).setCell ⟨pm, 6, none⟩ (.int .i64 0)).setCell ⟨pm, 7, none⟩ (.string ⟨#[]⟩)).setCell ⟨pc, 0, none⟩ (.int .i64 c)) = wf at *
  clear b0 b1 b2 b3 b4 b5 b6 b7 b8 s0 s1 s2 s3 s4 s5 s6 s7 hB hT hc hz
  cases c₀
  simp_all [bodyPostS, results, Try.results43]
set_option maxHeartbeats 1000000 in
theorem catch_idle (pm pc : Nat) (w : World) :
    CallsD Try.prog 43 #[.pointer (some ⟨pm, 0, none⟩), .pointer (some ⟨pc, 0, none⟩)] .returning w fun e u' w' => e = .returned (.tuple #[]) ∧ u' = .returning ∧ w' = w := by
  refine callsD_of_wpS Try.func43 rfl fun c₀ cs hu => ?_
  apply wpS_seq
  apply wpS_region
  simp [wpOpsS, go_sem, recoverD, hu, Try.ntmps43, Exit.thenS]
  refine wpS_of_wp ?_
  show Code.wp _ _ _ { tmps := #[.pointer (some ⟨pm, 0, none⟩), .pointer (some ⟨pc, 0, none⟩), .nilIface, .nilIface, undef, undef, undef, undef, undef], defers := [] } _
  go_wp2_with fail
  cases c₀
  simp_all [bodyPostS, results, Try.results43]
end Go.Proofs.Ytbflhhifkhoapaa
