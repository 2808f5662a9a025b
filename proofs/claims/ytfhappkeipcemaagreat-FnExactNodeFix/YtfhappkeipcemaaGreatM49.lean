/- A node while a call works on it (the program), over arrays of cells. -/
import Derived.Test.YtfhappkeipcemaaGreatRows
import Derived.WalkKit
import Derived.WalkSpells
import Derived.WalkLawsBesides
import Derived.Deep.QuietTactic
import Derived.BigQuiet
import Derived.Deep.OwnRows
import Derived.Deep.RegionHeld
import Derived.Laws.BytesArg
import Derived.Deep.RegionHeld3
import Derived.Deep.DeepCutAuto
import Derived.WalkSmall
import Derived.Deep.DeepAppendRoom
import Derived.Laws.OwnMore
import Derived.Lib.SmallJoins
import Derived.WalkMore
import Derived.ScopeJumps
import Derived.Lib.MinMax
import Derived.Test.YtfhappkeipcemaaGreatM0
import Derived.Test.YtfhappkeipcemaaGreatM1
import Derived.Test.YtfhappkeipcemaaGreatM2
import Derived.Test.YtfhappkeipcemaaGreatM3
import Derived.Test.YtfhappkeipcemaaGreatM5
import Derived.Test.YtfhappkeipcemaaGreatM6
import Derived.Test.YtfhappkeipcemaaGreatM7
import Derived.Test.YtfhappkeipcemaaGreatM12
import Derived.Test.YtfhappkeipcemaaGreatM14
import Derived.Test.YtfhappkeipcemaaGreatM21
import Derived.Test.YtfhappkeipcemaaGreatM22
import Derived.Test.YtfhappkeipcemaaGreatM26
import Derived.Test.YtfhappkeipcemaaGreatM34
import Derived.Test.YtfhappkeipcemaaGreatM41
import Derived.Test.YtfhappkeipcemaaGreatM48
namespace Go.Proofs.YtfhappkeipcemaaGreat
open Go.RowKit
set_option linter.unusedVariables false
attribute [-go_sem] loadCells storeCells in
set_option maxRecDepth 100000 in
set_option maxHeartbeats 8000000 in
theorem wkNode (y : CfX) (x : NdX) (ct : Int) (p : Option Addr) (d : Nat) (aa : Option Addr) (ac : Nat) (pa : Option Addr) (pc : Nat) (ha : Option Addr) (hc k : Nat) (w : World) (HK : Bo w k (wkV y x ct p d aa ac pa pc ha hc)) :
    Calls Tryz.prog 72 #[.pointer (some ⟨k, 0, none⟩)] w fun e w' => e = .returned (.agg (ndV x aa ac pa pc ha hc)) ∧ Below w.heap.size w w' := by
  have A0 := Below.nw w (.cells #[.int .i64 0, .int .i64 0, .int .i64 0, .int .i64 0, .bool false, .int .i64 0, .int .i64 0, .int .i64 0, .int .i64 0, .int .i64 0, .slice none 0 0, .slice none 0 0, .bool false, .int .i64 0, .slice none 0 0, .int .i64 0] 66)
  have R := Bo.new w #[.int .i64 0, .int .i64 0, .int .i64 0, .int .i64 0, .bool false, .int .i64 0, .int .i64 0, .int .i64 0, .int .i64 0, .int .i64 0, .slice none 0 0, .slice none 0 0, .bool false, .int .i64 0, .slice none 0 0, .int .i64 0] 66
  have K := HK.below A0
  have HK0 : Hid (Bo w k (wkV y x ct p d aa ac pa pc ha hc)) := HK
  have hk := HK.1
  have B := A0
  clear A0 HK
  go_enter Tryz.func72, Tryz.ntmps72
  go_upto_region 1 with fail
  generalize w.alloc (.cells #[.int .i64 0, .int .i64 0, .int .i64 0, .int .i64 0, .bool false, .int .i64 0, .int .i64 0, .int .i64 0, .int .i64 0, .int .i64 0, .slice none 0 0, .slice none 0 0, .bool false, .int .i64 0, .slice none 0 0, .int .i64 0] 66) = v0 at *
  have SK : Hid (∀ w', Below w.heap.size w w' → (fun w' => w'.cell? ⟨k, 17, none⟩ = some (.int .i64 x.ni) ∧ (loadCells ⟨k, 18, none⟩ 3).run Tryz.prog w' = .ok #[.int .i64 x.mo, .int .i64 x.ep, .int .i64 x.si] w' ∧ (loadCells ⟨k, 21, none⟩ 4).run Tryz.prog w' = .ok #[.bool x.kn, .int .i64 x.lo, .int .i64 x.hi, .int .i64 x.la] w' ∧ (loadCells ⟨k, 0, none⟩ 3).run Tryz.prog w' = .ok #[.int .i64 x.te, .int .i64 x.us, .slice aa x.na ac] w' ∧ w'.cell? ⟨k, 25, none⟩ = some (.slice pa x.np pc) ∧ (loadCells ⟨k, 3, none⟩ 2).run Tryz.prog w' = .ok #[.bool x.hs, .int .i64 x.ls] w' ∧ w'.cell? ⟨k, 26, none⟩ = some (.slice ha x.nh hc) ∧ w'.cell? ⟨k, 27, none⟩ = some (.int .i64 x.se)) w') := fun w' hw => ⟨(HK0.out.below hw).cell rfl, (HK0.out.below hw).loadAt (P := Tryz.prog) 18 3 (show 18 + 3 ≤ 28 by decide), (HK0.out.below hw).loadAt (P := Tryz.prog) 21 4 (show 21 + 4 ≤ 28 by decide), (HK0.out.below hw).loadAt (P := Tryz.prog) 0 3 (show 0 + 3 ≤ 28 by decide), (HK0.out.below hw).cell rfl, (HK0.out.below hw).loadAt (P := Tryz.prog) 3 2 (show 3 + 2 ≤ 28 by decide), (HK0.out.below hw).cell rfl, (HK0.out.below hw).cell rfl⟩
  refine wp_region_held_drew (S := (fun w' => w'.cell? ⟨k, 17, none⟩ = some (.int .i64 x.ni) ∧ (loadCells ⟨k, 18, none⟩ 3).run Tryz.prog w' = .ok #[.int .i64 x.mo, .int .i64 x.ep, .int .i64 x.si] w' ∧ (loadCells ⟨k, 21, none⟩ 4).run Tryz.prog w' = .ok #[.bool x.kn, .int .i64 x.lo, .int .i64 x.hi, .int .i64 x.la] w' ∧ (loadCells ⟨k, 0, none⟩ 3).run Tryz.prog w' = .ok #[.int .i64 x.te, .int .i64 x.us, .slice aa x.na ac] w' ∧ w'.cell? ⟨k, 25, none⟩ = some (.slice pa x.np pc) ∧ (loadCells ⟨k, 3, none⟩ 2).run Tryz.prog w' = .ok #[.bool x.hs, .int .i64 x.ls] w' ∧ w'.cell? ⟨k, 26, none⟩ = some (.slice ha x.nh hc) ∧ w'.cell? ⟨k, 27, none⟩ = some (.int .i64 x.se))) (by kernel_rfl) ?_ (fun hHeld => ?_)
  · first | exact SK.out _ B1 | exact SK.out _ XF | exact SK.out _ (B.trans ((Below.drew (Below.refl _ _)).mono B.size))
  have XB : Below v0.heap.size v0 v0.drew := Below.drew (Below.refl _ _)
  have R1 := R.below XB
  have B1 := B.trans (XB.mono B.size)
  generalize v0.drew = vx at *
  have hU : (ndV x aa ac pa pc ha hc).size = 16 := rfl
  have hst : (storeCells ⟨w.heap.size, 0, none⟩ [.int .i64 x.ni, .int .i64 x.mo, .int .i64 x.ep, .int .i64 x.si, .bool x.kn, .int .i64 x.lo, .int .i64 x.hi, .int .i64 x.la, .int .i64 x.te, .int .i64 x.us, .slice aa x.na ac, .slice pa x.np pc, .bool x.hs, .int .i64 x.ls, .slice ha x.nh hc, .int .i64 x.se] 0).run Tryz.prog vx = .ok () (putA vx w.heap.size 0 (ndV x aa ac pa pc ha hc).toList) := Bo.store (P := Tryz.prog) (b := 0) (ndV x aa ac pa pc ha hc).toList 0 0 R1 rfl (by simp [hU]) (ndV_one _ _ _ _ _ _ _)
  have XF : Below w.heap.size w (putA vx w.heap.size 0 (ndV x aa ac pa pc ha hc).toList) := putA_below (k := w.heap.size) (ndV x aa ac pa pc ha hc).toList w vx 0 B1 (Nat.le_refl _)
  have RF := R1.putW (U := (ndV x aa ac pa pc ha hc)) hU
  generalize putA vx w.heap.size 0 (ndV x aa ac pa pc ha hc).toList = vf at *
  refine zTk 0 ?_ ?_ ?_
  rotate_left
  · (intro w hSw; (try dsimp only at hSw); go_simp; all_goals with_reducible rfl)
  (try simp only [Act.put, zSb, zS0, zS1])
  refine zTk 1 ?_ ?_ ?_
  rotate_left
  · (intro w hSw; (try dsimp only at hSw); go_simp; all_goals with_reducible rfl)
  (try simp only [Act.put, zSb, zS0, zS1])
  refine zTk 2 ?_ ?_ ?_
  rotate_left
  · (intro w hSw; (try dsimp only at hSw); go_simp; all_goals with_reducible rfl)
  (try simp only [Act.put, zSb, zS0, zS1])
  refine zTk 3 ?_ ?_ ?_
  rotate_left
  · (intro w hSw; (try dsimp only at hSw); go_simp; all_goals with_reducible rfl)
  (try simp only [Act.put, zSb, zS0, zS1])
  refine zTk 4 ?_ ?_ ?_
  rotate_left
  · (intro w hSw; (try dsimp only at hSw); go_simp; all_goals with_reducible rfl)
  (try simp only [Act.put, zSb, zS0, zS1])
  refine zTk 5 ?_ ?_ ?_
  rotate_left
  · (intro w hSw; (try dsimp only at hSw); go_simp; all_goals with_reducible rfl)
  (try simp only [Act.put, zSb, zS0, zS1])
  refine zTk 6 ?_ ?_ ?_
  rotate_left
  · (intro w hSw; (try dsimp only at hSw); go_simp; all_goals with_reducible rfl)
  (try simp only [Act.put, zSb, zS0, zS1])
  refine zTk 7 ?_ ?_ ?_
  rotate_left
  · (intro w hSw; (try dsimp only at hSw); go_simp; all_goals with_reducible rfl)
  (try simp only [Act.put, zSb, zS0, zS1])
  refine zTk 8 ?_ ?_ ?_
  rotate_left
  · (intro w hSw; (try dsimp only at hSw); go_simp; all_goals with_reducible rfl)
  (try simp only [Act.put, zSb, zS0, zS1])
  refine zTk 9 ?_ ?_ ?_
  rotate_left
  · (intro w hSw; (try dsimp only at hSw); go_simp; all_goals with_reducible rfl)
  (try simp only [Act.put, zSb, zS0, zS1])
  refine zTk 10 ?_ ?_ ?_
  rotate_left
  · (intro w hSw; (try dsimp only at hSw); go_simp; all_goals with_reducible rfl)
  (try simp only [Act.put, zSb, zS0, zS1])
  refine zTk 11 ?_ ?_ ?_
  rotate_left
  · (intro w hSw; (try dsimp only at hSw); go_simp; all_goals with_reducible rfl)
  (try simp only [Act.put, zSb, zS0, zS1])
  refine zTk 12 ?_ ?_ ?_
  rotate_left
  · (intro w hSw; (try dsimp only at hSw); go_simp; all_goals with_reducible rfl)
  (try simp only [Act.put, zSb, zS0, zS1])
  refine zTk 13 ?_ ?_ ?_
  rotate_left
  · (intro w hSw; (try dsimp only at hSw); go_simp; all_goals with_reducible rfl)
  (try simp only [Act.put, zSb, zS0, zS1])
  refine zTk 14 ?_ ?_ ?_
  rotate_left
  · (intro w hSw; (try dsimp only at hSw); go_simp; all_goals with_reducible rfl)
  (try simp only [Act.put, zSb, zS0, zS1])
  refine zTk 15 ?_ ?_ ?_
  rotate_left
  · (intro w hSw; (try dsimp only at hSw); go_simp; all_goals with_reducible rfl)
  (try simp only [Act.put, zSb, zS0, zS1])
  refine zTk 16 ?_ ?_ ?_
  rotate_left
  · (intro w hSw; (try dsimp only at hSw); go_simp; all_goals with_reducible rfl)
  (try simp only [Act.put, zSb, zS0, zS1])
  refine zTk 17 ?_ ?_ ?_
  rotate_left
  · (intro w hSw; (try dsimp only at hSw); go_simp; all_goals with_reducible rfl)
  (try simp only [Act.put, zSb, zS0, zS1])
  refine zTk 18 ?_ ?_ ?_
  rotate_left
  · (intro w hSw; (try dsimp only at hSw); go_simp; all_goals with_reducible rfl)
  (try simp only [Act.put, zSb, zS0, zS1])
  refine zTk 19 ?_ ?_ ?_
  rotate_left
  · (intro w hSw; (try dsimp only at hSw); go_simp; all_goals with_reducible rfl)
  (try simp only [Act.put, zSb, zS0, zS1])
  refine zTk 20 ?_ ?_ ?_
  rotate_left
  · (intro w hSw; (try dsimp only at hSw); go_simp; all_goals with_reducible rfl)
  (try simp only [Act.put, zSb, zS0, zS1])
  refine zTk 21 ?_ ?_ ?_
  rotate_left
  · (intro w hSw; (try dsimp only at hSw); go_simp; all_goals with_reducible rfl)
  (try simp only [Act.put, zSb, zS0, zS1])
  refine zTk 22 ?_ ?_ ?_
  rotate_left
  · (intro w hSw; (try dsimp only at hSw); go_simp; all_goals with_reducible rfl)
  (try simp only [Act.put, zSb, zS0, zS1])
  refine zTk 23 ?_ ?_ ?_
  rotate_left
  · (intro w hSw; (try dsimp only at hSw); go_simp; all_goals with_reducible rfl)
  (try simp only [Act.put, zSb, zS0, zS1])
  refine zTk 24 ?_ ?_ ?_
  rotate_left
  · (intro w hSw; (try dsimp only at hSw); go_simp; all_goals with_reducible rfl)
  (try simp only [Act.put, zSb, zS0, zS1])
  refine zTk 25 ?_ ?_ ?_
  rotate_left
  · (intro w hSw; (try dsimp only at hSw); go_simp; all_goals with_reducible rfl)
  (try simp only [Act.put, zSb, zS0, zS1])
  refine zTk 26 ?_ ?_ ?_
  rotate_left
  · (intro w hSw; (try dsimp only at hSw); go_simp; all_goals with_reducible rfl)
  (try simp only [Act.put, zSb, zS0, zS1])
  refine zTk 27 ?_ ?_ ?_
  rotate_left
  · (intro w hSw; (try dsimp only at hSw); go_simp; all_goals with_reducible rfl)
  (try simp only [Act.put, zSb, zS0, zS1])
  refine zTk 28 ?_ ?_ ?_
  rotate_left
  · (intro w hSw; (try dsimp only at hSw); go_simp; all_goals with_reducible rfl)
  (try simp only [Act.put, zSb, zS0, zS1])
  refine zTk 29 ?_ ?_ ?_
  rotate_left
  · (intro w hSw; (try dsimp only at hSw); go_simp; all_goals with_reducible rfl)
  (try simp only [Act.put, zSb, zS0, zS1])
  refine zTk 30 ?_ ?_ ?_
  rotate_left
  · (intro w hSw; (try dsimp only at hSw); go_simp; all_goals with_reducible rfl)
  (try simp only [Act.put, zSb, zS0, zS1])
  refine zTk 31 ?_ ?_ ?_
  rotate_left
  · (intro w hSw; (try dsimp only at hSw); go_simp; all_goals with_reducible rfl)
  (try simp only [Act.put, zSb, zS0, zS1])
  refine zTk 32 ?_ ?_ ?_
  rotate_left
  · (intro w hSw; (try dsimp only at hSw); go_simp; all_goals with_reducible rfl)
  (try simp only [Act.put, zSb, zS0, zS1])
  refine wpAnyH_ready (rs := [33]) (by kernel_rfl) (by simp) ?_
  refine (AllReadyH.cons (by rw [List.getElem?_toArray]; rfl) (fun K hK => ?_) AllReadyH.nil)
  go_simp
  refine hK.out _ _ ?_ (fun hHeld => ?_)
  · first | exact SK.out _ B1 | exact SK.out _ XF | exact SK.out _ (B.trans ((Below.drew (Below.refl _ _)).mono B.size))
  clear hK K
  (try simp only [Act.put, zSb, zS0, zS1])
  refine wpAnyH_done (by kernel_rfl) ?_ _
  go_wp2_with (rw [hst])
  have hL0 := RF.load (P := Tryz.prog) hU
  exact bodyPost_ret (v := .agg (ndV x aa ac pa pc ha hc)) (by simp [results, Tryz.results72, go_sem]; rw [hL0]; rfl) rfl ⟨rfl, XF⟩
end Go.Proofs.YtfhappkeipcemaaGreat
