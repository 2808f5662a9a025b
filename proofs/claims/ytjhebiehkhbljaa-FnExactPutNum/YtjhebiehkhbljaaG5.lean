/- The walk of the exact law of PutNum. -/
import Derived.Test.YtjhebiehkhbljaaG3
import Derived.Test.YtjhebiehkhbljaaG4
import Derived.WalkKit
import Derived.WalkSpells
import Derived.WalkLawsBesides
import Derived.Deep.RegionHeld
namespace Go.Proofs.Ytjhebiehkhbljaa
open Go.RowKit
set_option linter.unusedVariables false
theorem wf_i64 {x : Int} (h : (Lit.int .i64 x).wf = true) : -9223372036854775808 ≤ x ∧ x ≤ 9223372036854775807 := by
  simp only [Lit.wf, Bool.and_eq_true, decide_eq_true_eq] at h
  exact h
theorem ownB_belowB {w w' : World} {B base : Nat} {e : TypeId} {size : Nat} {v : Value} {n : Nat} {xs : List Value} (h : w.ownsRow base e size v n xs) (hb : Below B w w') (hlt : ∀ g, v.ownBlock = some g → g < B) : w'.ownsRow base e size v n xs := by
  refine ⟨h.1, ?_⟩
  rcases h.2 with h | ⟨g, cap, cur, rfl, h2, h3, h4⟩
  · exact .inl h
  · exact .inr ⟨g, cap, cur, rfl, h2, (hb.block g (hlt g rfl)).trans h3, h4⟩
set_option maxHeartbeats 4000000 in
theorem lawPutNum (x : Int) (w : World) (wx : (Lit.int .i64 x).wf = true) :
    Calls Try.prog 4 #[.int .i64 x] w fun e w' => e = .returned (.bool true) ∧ Below w.heap.size w w' := by
  have hx := (wf_i64 wx).2
  have CS := fun (w' : World) => specPutNum_any x w' hx
  have CI := fun (w' : World) => implPutNum_any x w' hx
  have hLen := putL_len x
  generalize putL x = L at *
  have hLm : L.length ≤ maxLen := by unfold maxLen; omega
  have hLn : L.length ≤ 1048576 := by omega
  clear wx hx
  go_enter Try.func4, Try.ntmps4
  go_wp2_with fail
  refine (CS _).mono ?_
  rintro e w1 ⟨vs, rfl, V1, B1⟩
  have Vl : ∀ g, vs.ownBlock = some g → g < w1.heap.size := fun g hg => (V1.lt g hg).2
  go_wp2_with fail
  refine (CI _).mono ?_
  rintro e w2 ⟨vg, rfl, G2, hb⟩
  have B2 := B1.trans (hb.mono B1.size)
  have V2 := ownB_below V1 hb
  have s2 : w1.heap.size ≤ w2.heap.size := hb.size
  have s1 : w.heap.size ≤ w1.heap.size := B1.size
  clear hb B1 V1
  obtain ⟨az, cz, rfl, hsc, hsm, SS2⟩ := ownB_src V2
  obtain ⟨ag, cg, rfl, hgc, hgm, SG2⟩ := ownB_src G2
  have HS2 : Hid (SrcB w2 az L.length fun i => L.getD i 0) := SS2
  have HG2 : Hid (SrcB w2 ag L.length fun i => L.getD i 0) := SG2
  clear SS2 SG2 hsc hsm hgc hgm
  go_wp2_with fail
  refine (eqByteS_src _ _ _ _ _ _ _ hLm HG2.out HS2.out).mono ?_
  rintro e w3 ⟨rfl, hb⟩
  have B3 := B2.trans (hb.mono B2.size)
  have V3 := ownB_below V2 hb
  have G3 := ownB_below G2 hb
  have s3 : w2.heap.size ≤ w3.heap.size := hb.size
  clear hb B2 V2 G2 HS2 HG2
  go_wp2_with fail
  refine (markByteS_any ag L.length cg w1.heap.size _ _ hLn (by omega) G3).mono ?_
  rintro e w4 ⟨rfl, hg, hb⟩
  have B4 := B3.trans (hb.mono s1)
  have V4 := ownB_belowB V3 hb Vl
  have HM4 : Hid (SrcB w4 ag L.length fmb) := hg
  have s4 : w3.heap.size ≤ w4.heap.size := hb.size
  clear hb B3 V3 G3 hg
  go_wp2_with fail
  refine (heldByteS_any ag L.length cg _ hLn HM4.out).mono ?_
  rintro e w' ⟨rfl, rfl⟩
  go_wp2_with fail
  refine (CI _).mono ?_
  rintro e w5 ⟨vh, rfl, H5, hb⟩
  have B5 := B4.trans (hb.mono B4.size)
  have V5 := ownB_below V4 hb
  have HM5 : Hid (SrcB w5 ag L.length fmb) := HM4.out.below hb
  clear hb B4 V4 HM4
  obtain ⟨ah, ch, rfl, hhc, hhm, SH5⟩ := ownB_src H5
  obtain ⟨az', cz', he, hsc, hsm, SS5⟩ := ownB_src V5
  simp at he
  obtain ⟨rfl, rfl⟩ := he
  have HH5 : Hid (SrcB w5 ah L.length fun i => L.getD i 0) := SH5
  have HS5 : Hid (SrcB w5 az L.length fun i => L.getD i 0) := SS5
  clear hhc hhm SH5 hsc hsm SS5
  go_wp2_with fail
  refine (eqByteS_src _ _ _ _ _ _ _ hLm HH5.out HS5.out).mono ?_
  rintro e w6 ⟨rfl, hb⟩
  have B6 := B5.trans (hb.mono B5.size)
  have HM6 : Hid (SrcB w6 ag L.length fmb) := HM5.out.below hb
  clear hb B5 V5 H5 HS5 HH5 HM5
  go_wp2_with fail
  refine (heldByteS_any ag L.length cg _ hLn HM6.out).mono ?_
  rintro e w' ⟨rfl, rfl⟩
  go_wp2_with fail
  go_ret
  exact ⟨rfl, B6⟩
end Go.Proofs.Ytjhebiehkhbljaa
