/- The contract of a carried trip. -/
import Derived.Test.YtnkgdohccdcipaaR83
import Derived.Handy
import Derived.Deep.RegionHeld3
import Derived.Deep.DeepCutAuto
import Derived.WalkKit
import Derived.WalkSpells
import Derived.WalkLawsBesides
import Derived.Deep.RegionHeld
namespace Go.Proofs.Ytnkgdohccdcipaa
open Go.RowKit
set_option linter.unusedVariables false
theorem as_trip (fr lo hi s g : Int) (w : World) : (Instr.typeAssert (.iface 29 (.agg #[.int .i64 fr, .int .i64 lo, .int .i64 hi, .int .i64 s, .int .i64 g])) 62 29 true).run Try.prog w = .ok (.tuple #[.agg #[.int .i64 fr, .int .i64 lo, .int .i64 hi, .int .i64 s, .int .i64 g], .bool true]) w := by kernel_rfl
set_option maxRecDepth 100000 in
set_option maxHeartbeats 4000000 in
theorem carried_over (n d fr lo hi s g a : Int) (w : World) (h : tbC n d fr lo hi s g ≠ 0) :
    Calls Try.prog 41 #[.agg #[.iface 29 (.agg #[.int .i64 fr, .int .i64 lo, .int .i64 hi, .int .i64 s, .int .i64 g]), .int .i64 a], .agg #[.int .i64 n, .int .i64 d]] w fun e w' => e = .returned (.tuple #[.agg #[.int .i64 0, .int .i64 0], .int .i64 (tbC n d fr lo hi s g)]) ∧ Below w.heap.size w w' := by
  have CT := fun w' => tripBounds_any n d fr lo hi s g w'
  obtain ⟨k1, k2⟩ := tb_zero h
  rw [k1, k2] at CT
  clear k1 k2
  generalize tbC n d fr lo hi s g = Z at *
  go_enter Try.func41, Try.ntmps41
  go_wp2_with (go_at_call 34; refine (CT _).mono ?_; rintro e w' ⟨rfl, hb⟩; obtain ⟨hc, hf⟩ := bcell hb; (first | have hB := Below.trans (Below.trans hB (by repeat (first | exact Below.refl _ _ | refine Below.drew ?_ | refine Below.alloc ?_ (by first | (simp; done) | (simp; omega) | omega) _ | refine Below.setCell ?_ (by first | (simp; done) | (simp; omega) | omega) _ | refine Below.trans ?_ (Below.mono (by assumption) (by first | (simp; done) | (simp; omega) | omega))))) (Below.mono hb (by first | (simp; done) | (simp; omega) | omega)) | have hB := hb); obtain ⟨hC, hF⟩ := bcell hB; have hz := hb.size; (try simp at hz); (try (have hz0 : w.heap.size < w'.heap.size := by omega)); (try (have hz1 : w.heap.size + 1 < w'.heap.size := by omega)); (try (have hz2 : w.heap.size + 1 + 1 < w'.heap.size := by omega)); (try (have hz3 : w.heap.size + 1 + 1 + 1 < w'.heap.size := by omega)))
  exact bodyPost_ret (v := .tuple #[.agg #[.int .i64 0, .int .i64 0], .int .i64 Z]) (by simp (maxDischargeDepth := 6) [results, Try.results41, go_sem, *]) rfl ⟨rfl, by repeat (first | exact Below.refl _ _ | refine Below.drew ?_ | refine Below.alloc ?_ (by first | (simp; done) | (simp; omega) | omega) _ | refine Below.setCell ?_ (by first | (simp; done) | (simp; omega) | omega) _ | refine Below.trans ?_ (Below.mono (by assumption) (by first | (simp; done) | (simp; omega) | omega)))⟩
set_option maxRecDepth 100000 in
set_option maxHeartbeats 4000000 in
theorem carried_bad (n d fr lo hi s g a : Int) (w : World) (h : tbC n d fr lo hi s g = 0) (ha : ¬ (g ≤ a ∧ a ≤ 1000000000000)) :
    Calls Try.prog 41 #[.agg #[.iface 29 (.agg #[.int .i64 fr, .int .i64 lo, .int .i64 hi, .int .i64 s, .int .i64 g]), .int .i64 a], .agg #[.int .i64 n, .int .i64 d]] w fun e w' => e = .returned (.tuple #[.agg #[.int .i64 0, .int .i64 0], .int .i64 1]) ∧ Below w.heap.size w w' := by
  have CT := fun w' => tripBounds_any n d fr lo hi s g w'
  rw [h] at CT
  clear h
  have AS := as_trip fr lo hi s g
  generalize tbL n d fr lo hi s g = X at *
  generalize tbH n d fr lo hi s g = Y at *
  by_cases h1 : a < g
  · clear ha
    go_enter Try.func41, Try.ntmps41
    go_wp2_with (go_at_call 34; refine (CT _).mono ?_; rintro e w' ⟨rfl, hb⟩; obtain ⟨hc, hf⟩ := bcell hb; (first | have hB := Below.trans (Below.trans hB (by repeat (first | exact Below.refl _ _ | refine Below.drew ?_ | refine Below.alloc ?_ (by first | (simp; done) | (simp; omega) | omega) _ | refine Below.setCell ?_ (by first | (simp; done) | (simp; omega) | omega) _ | refine Below.trans ?_ (Below.mono (by assumption) (by first | (simp; done) | (simp; omega) | omega))))) (Below.mono hb (by first | (simp; done) | (simp; omega) | omega)) | have hB := hb); obtain ⟨hC, hF⟩ := bcell hB; have hz := hb.size; (try simp at hz); (try (have hz0 : w.heap.size < w'.heap.size := by omega)); (try (have hz1 : w.heap.size + 1 < w'.heap.size := by omega)); (try (have hz2 : w.heap.size + 1 + 1 < w'.heap.size := by omega)); (try (have hz3 : w.heap.size + 1 + 1 + 1 < w'.heap.size := by omega)))
    exact bodyPost_ret (v := .tuple #[.agg #[.int .i64 0, .int .i64 0], .int .i64 1]) (by simp (maxDischargeDepth := 6) [results, Try.results41, go_sem, *]) rfl ⟨rfl, by repeat (first | exact Below.refl _ _ | refine Below.drew ?_ | refine Below.alloc ?_ (by first | (simp; done) | (simp; omega) | omega) _ | refine Below.setCell ?_ (by first | (simp; done) | (simp; omega) | omega) _ | refine Below.trans ?_ (Below.mono (by assumption) (by first | (simp; done) | (simp; omega) | omega)))⟩
  · have h2 : 1000000000000 < a := by omega
    clear ha
    go_enter Try.func41, Try.ntmps41
    go_wp2_with (go_at_call 34; refine (CT _).mono ?_; rintro e w' ⟨rfl, hb⟩; obtain ⟨hc, hf⟩ := bcell hb; (first | have hB := Below.trans (Below.trans hB (by repeat (first | exact Below.refl _ _ | refine Below.drew ?_ | refine Below.alloc ?_ (by first | (simp; done) | (simp; omega) | omega) _ | refine Below.setCell ?_ (by first | (simp; done) | (simp; omega) | omega) _ | refine Below.trans ?_ (Below.mono (by assumption) (by first | (simp; done) | (simp; omega) | omega))))) (Below.mono hb (by first | (simp; done) | (simp; omega) | omega)) | have hB := hb); obtain ⟨hC, hF⟩ := bcell hB; have hz := hb.size; (try simp at hz); (try (have hz0 : w.heap.size < w'.heap.size := by omega)); (try (have hz1 : w.heap.size + 1 < w'.heap.size := by omega)); (try (have hz2 : w.heap.size + 1 + 1 < w'.heap.size := by omega)); (try (have hz3 : w.heap.size + 1 + 1 + 1 < w'.heap.size := by omega)))
    exact bodyPost_ret (v := .tuple #[.agg #[.int .i64 0, .int .i64 0], .int .i64 1]) (by simp (maxDischargeDepth := 6) [results, Try.results41, go_sem, *]) rfl ⟨rfl, by repeat (first | exact Below.refl _ _ | refine Below.drew ?_ | refine Below.alloc ?_ (by first | (simp; done) | (simp; omega) | omega) _ | refine Below.setCell ?_ (by first | (simp; done) | (simp; omega) | omega) _ | refine Below.trans ?_ (Below.mono (by assumption) (by first | (simp; done) | (simp; omega) | omega)))⟩
def Cy (w : World) (k j : Nat) (a n d X Y fr lo hi s g : Int) : Prop := k < w.heap.size ∧ w.cell? ⟨k, 1, none⟩ = some (.int .i64 a) ∧ Bx w (k + 1) n d ∧ Bx w (k + 1 + 1) 0 0 ∧ Bx w j X Y ∧ Box5 w (j + 1) fr lo hi s g
theorem Cy.below {w w' : World} {k j : Nat} {a n d X Y fr lo hi s g : Int} (h : Cy w k j a n d X Y fr lo hi s g) (hw : Below w.heap.size w w') : Cy w' k j a n d X Y fr lo hi s g := by
  obtain ⟨h0, h1, h2, h3, h4, h5⟩ := h
  exact ⟨Nat.lt_of_lt_of_le h0 hw.size, by rw [hw.cell (p := ⟨k, 1, none⟩) h0]; exact h1, h2.below hw, h3.below hw, h4.below hw, h5.below hw⟩
theorem Cy.alloc {w : World} {k j : Nat} {a n d X Y fr lo hi s g : Int} (h : Cy w k j a n d X Y fr lo hi s g) (o : Obj) : Cy (w.alloc o) k j a n d X Y fr lo hi s g := h.below (Below.alc _ _)
theorem Cy.drew {w : World} {k j : Nat} {a n d X Y fr lo hi s g : Int} (h : Cy w k j a n d X Y fr lo hi s g) : Cy w.drew k j a n d X Y fr lo hi s g := h
theorem Cy.putI {w : World} {k j i : Nat} {a n d X Y fr lo hi s g : Int} (h : Cy w k j a n d X Y fr lo hi s g) (hk : k + 1 + 1 < i) (hj : j + 1 < i) (x y : Int) : Cy (putI w i x y) k j a n d X Y fr lo hi s g := by
  obtain ⟨h0, h1, h2, h3, h4, h5⟩ := h
  refine ⟨by simpa [Go.Proofs.Ytnkgdohccdcipaa.putI] using h0, ?_, h2.setIO (by omega) x y, h3.setIO (by omega) x y, h4.setIO (by omega) x y, h5.setIO (by omega) x y⟩
  unfold Go.Proofs.Ytnkgdohccdcipaa.putI
  rw [World.cell?_setCell_other _ _ _ _ (by intro e; have := congrArg Addr.block e; simp at this; omega), World.cell?_setCell_other _ _ _ _ (by intro e; have := congrArg Addr.block e; simp at this; omega)]
  exact h1
theorem Cy.mk {w v : World} {k : Nat} {a n d : Int} (h0 : k < w.heap.size) (h1 : w.cell? ⟨k, 1, none⟩ = some (.int .i64 a)) (h2 : Bx w (k + 1) n d) (h3 : Bx w (k + 1 + 1) 0 0) (hb : Below w.heap.size w v) (X Y fr lo hi s g : Int) (T U : TypeId) :
    Cy ((v.alloc (.cells #[.int .i64 X, .int .i64 Y] T)).alloc (.cells #[.int .i64 fr, .int .i64 lo, .int .i64 hi, .int .i64 s, .int .i64 g] U)) k v.heap.size a n d X Y fr lo hi s g := by
  have q := Box5.new (v.alloc (.cells #[.int .i64 X, .int .i64 Y] T)) fr lo hi s g U
  rw [World.size_alloc] at q
  have hs := hb.size
  refine ⟨by simp; omega, ?_, ((h2.below hb).alloc _).alloc _, ((h3.below hb).alloc _).alloc _, (Bx.new v X Y T).alloc _, q⟩
  rw [(Below.alc (v.alloc (.cells #[.int .i64 X, .int .i64 Y] T)) _).cell (p := ⟨k, 1, none⟩) (by simp; omega), (Below.alc v _).cell (p := ⟨k, 1, none⟩) (show k < v.heap.size by omega), hb.cell (p := ⟨k, 1, none⟩) h0]
  exact h1
set_option maxRecDepth 100000 in
set_option maxHeartbeats 8000000 in
theorem carried_late (n d fr lo hi s g a : Int) (w : World) (h : tbC n d fr lo hi s g = 0) (ha : g ≤ a ∧ a ≤ 1000000000000) (hz : crC true (tbL n d fr lo hi s g) (tbH n d fr lo hi s g) g n d a = 4) :
    Calls Try.prog 41 #[.agg #[.iface 29 (.agg #[.int .i64 fr, .int .i64 lo, .int .i64 hi, .int .i64 s, .int .i64 g]), .int .i64 a], .agg #[.int .i64 n, .int .i64 d]] w fun e w' => e = .returned (.tuple #[.agg #[.int .i64 0, .int .i64 0], .int .i64 2]) ∧ Below w.heap.size w w' := by
  have CT := fun w' => tripBounds_any n d fr lo hi s g w'
  have CC := fun w' => implCarryOn_any true (tbL n d fr lo hi s g) (tbH n d fr lo hi s g) g n d a w'
  rw [h] at CT
  rw [hz] at CC
  have a1 : decide (a < g) = false := by simp; omega
  have a2 : decide (1000000000000 < a) = false := by simp; omega
  clear h ha hz
  have AS := as_trip fr lo hi s g
  generalize crL true (tbL n d fr lo hi s g) (tbH n d fr lo hi s g) g n d a = U at *
  generalize crH true (tbL n d fr lo hi s g) (tbH n d fr lo hi s g) g n d a = V at *
  generalize tbL n d fr lo hi s g = X at *
  generalize tbH n d fr lo hi s g = Y at *
  have P0 : (w.alloc (.cells #[.iface 29 (.agg #[.int .i64 fr, .int .i64 lo, .int .i64 hi, .int .i64 s, .int .i64 g]), .int .i64 a] 64)).cell? ⟨w.heap.size, 1, none⟩ = some (.int .i64 a) := by simp
  have P1 := Bx.new (w.alloc (.cells #[.iface 29 (.agg #[.int .i64 fr, .int .i64 lo, .int .i64 hi, .int .i64 s, .int .i64 g]), .int .i64 a] 64)) n d 25
  have P2 := Bx.new ((w.alloc (.cells #[.iface 29 (.agg #[.int .i64 fr, .int .i64 lo, .int .i64 hi, .int .i64 s, .int .i64 g]), .int .i64 a] 64)).alloc (.cells #[.int .i64 n, .int .i64 d] 25)) 0 0 27
  simp only [World.size_alloc] at P1 P2
  replace P1 := P1.alloc (.cells #[.int .i64 0, .int .i64 0] 27)
  have B : Below w.heap.size w (((w.alloc (.cells #[.iface 29 (.agg #[.int .i64 fr, .int .i64 lo, .int .i64 hi, .int .i64 s, .int .i64 g]), .int .i64 a] 64)).alloc (.cells #[.int .i64 n, .int .i64 d] 25)).alloc (.cells #[.int .i64 0, .int .i64 0] 27)) := ((Below.alc _ _).alloc (by first | (simp; done) | (simp; omega) | omega) _).alloc (by first | (simp; done) | (simp; omega) | omega) _
  replace P0 : (((w.alloc (.cells #[.iface 29 (.agg #[.int .i64 fr, .int .i64 lo, .int .i64 hi, .int .i64 s, .int .i64 g]), .int .i64 a] 64)).alloc (.cells #[.int .i64 n, .int .i64 d] 25)).alloc (.cells #[.int .i64 0, .int .i64 0] 27)).cell? ⟨w.heap.size, 1, none⟩ = some (.int .i64 a) := by rw [(Below.alc _ _).cell (p := ⟨w.heap.size, 1, none⟩) (by simp only [World.size_alloc]; omega), (Below.alc _ _).cell (p := ⟨w.heap.size, 1, none⟩) (by simp only [World.size_alloc]; omega)]; exact P0
  have hs : w.heap.size < (((w.alloc (.cells #[.iface 29 (.agg #[.int .i64 fr, .int .i64 lo, .int .i64 hi, .int .i64 s, .int .i64 g]), .int .i64 a] 64)).alloc (.cells #[.int .i64 n, .int .i64 d] 25)).alloc (.cells #[.int .i64 0, .int .i64 0] 27)).heap.size := by simp only [World.size_alloc]; omega
  go_enter Try.func41, Try.ntmps41
  go_wp2_with fail
  refine (CT _).mono ?_
  rintro e v ⟨rfl, hb⟩
  have P : Cy ((v.alloc (.cells #[.int .i64 X, .int .i64 Y] 27)).alloc (.cells #[.int .i64 fr, .int .i64 lo, .int .i64 hi, .int .i64 s, .int .i64 g] 29)) w.heap.size v.heap.size a n d X Y fr lo hi s g := Cy.mk hs P0 P1 P2 hb X Y fr lo hi s g 27 29
  replace B := B.trans (hb.mono B.size)
  replace B := (B.alloc B.size (.cells #[.int .i64 X, .int .i64 Y] 27)).alloc (Nat.le_trans B.size (by simp)) (.cells #[.int .i64 fr, .int .i64 lo, .int .i64 hi, .int .i64 s, .int .i64 g] 29)
  obtain ⟨c0, c1, ⟨d0, d1, d2, d3, d4⟩, ⟨e0, e1, e2, e3, e4⟩, ⟨x0, x1, x2, x3, x4⟩, ⟨p0, p1, p2, p3, p4, p5, q1, q2, q3, q4, q5⟩⟩ := id P
  obtain ⟨hc, hf⟩ := bcell hb
  have hz := hb.size
  simp at hz
  have hv0 : w.heap.size < v.heap.size := by omega
  have hv1 : w.heap.size + 1 < v.heap.size := by omega
  have hv2 : w.heap.size + 1 + 1 < v.heap.size := by omega
  clear CT hb P0 P1 P2 hs
  go_wp2_with fail
  clear hc hf hz
  generalize v.heap.size = j at *
  generalize (v.alloc (.cells #[.int .i64 X, .int .i64 Y] 27)).alloc (.cells #[.int .i64 fr, .int .i64 lo, .int .i64 hi, .int .i64 s, .int .i64 g] 29) = v at *
  go_cut [10, 11] (fun s5 s6 wx => ∃ k : Nat, s5 = .pointer (some ⟨k, 0, none⟩) ∧ s6 = .int .i64 4 ∧ Bx wx k U V ∧ j + 1 < k ∧ Cy wx w.heap.size j a n d X Y fr lo hi s g ∧ Below w.heap.size w wx)
  case first =>
    refine wp_region_held_drew (S := (fun w' => w'.cell? ⟨w.heap.size, 1, none⟩ = some (.int .i64 a) ∧ w'.cell? ⟨w.heap.size + 1, 0, none⟩ = some (.int .i64 n) ∧ w'.cell? ⟨w.heap.size + 1, 1, none⟩ = some (.int .i64 d) ∧ w'.cell? ⟨j, 0, none⟩ = some (.int .i64 X) ∧ w'.cell? ⟨j, 1, none⟩ = some (.int .i64 Y) ∧ w'.cell? ⟨j + 1, 4, none⟩ = some (.int .i64 g))) (by kernel_rfl) ?_ (fun hHeld => ?_)
    · simp (maxDischargeDepth := 6) [go_sem, *]
    clear c0 c1 d0 d1 d2 d3 d4 e0 e1 e2 e3 e4 x0 x1 x2 x3 x4 p0 p1 p2 p3 p4 p5 q1 q2 q3 q4 q5; (try clear n0 n1 n2 n3 n4)
    replace P := P.drew
    replace B := B.drew
    generalize v.drew = v at *
    obtain ⟨c0, c1, ⟨d0, d1, d2, d3, d4⟩, ⟨e0, e1, e2, e3, e4⟩, ⟨x0, x1, x2, x3, x4⟩, ⟨p0, p1, p2, p3, p4, p5, q1, q2, q3, q4, q5⟩⟩ := id P; (try (obtain ⟨n0, n1, n2, n3, n4⟩ := id N))
    refine wpAnyH_take (i := 0) (v := ?_) (by rw [List.getElem?_toArray]; rfl) (by kernel_rfl) (by kernel_rfl) (by kernel_rfl) (by intro _ _ _ h; exact h) (Or.inl ⟨by rfl, ?_⟩) (by assumption) ?_
    rotate_left
    · (intro w hSw; (try dsimp only at hSw); go_simp; all_goals with_reducible rfl)
    (try simp only [Act.put, List.setIfInBounds_toArray, List.set_cons_zero, List.set_cons_succ])
    refine wpAnyH_take (i := 1) (v := ?_) (by rw [List.getElem?_toArray]; rfl) (by kernel_rfl) (by kernel_rfl) (by kernel_rfl) (by intro _ _ _ h; exact h) (Or.inl ⟨by rfl, ?_⟩) (by assumption) ?_
    rotate_left
    · (intro w hSw; (try dsimp only at hSw); go_simp; all_goals with_reducible rfl)
    (try simp only [Act.put, List.setIfInBounds_toArray, List.set_cons_zero, List.set_cons_succ])
    refine wpAnyH_take (i := 2) (v := ?_) (by rw [List.getElem?_toArray]; rfl) (by kernel_rfl) (by kernel_rfl) (by kernel_rfl) (by intro _ _ _ h; exact h) (Or.inl ⟨by rfl, ?_⟩) (by assumption) ?_
    rotate_left
    · (intro w hSw; (try dsimp only at hSw); go_simp; all_goals with_reducible rfl)
    (try simp only [Act.put, List.setIfInBounds_toArray, List.set_cons_zero, List.set_cons_succ])
    refine wpAnyH_take (i := 4) (v := ?_) (by rw [List.getElem?_toArray]; rfl) (by kernel_rfl) (by kernel_rfl) (by kernel_rfl) (by intro _ _ _ h; exact h) (Or.inl ⟨by rfl, ?_⟩) (by assumption) ?_
    rotate_left
    · (intro w hSw; (try dsimp only at hSw); go_simp; all_goals with_reducible rfl)
    (try simp only [Act.put, List.setIfInBounds_toArray, List.set_cons_zero, List.set_cons_succ])
    refine wpAnyH_take (i := 5) (v := ?_) (by rw [List.getElem?_toArray]; rfl) (by kernel_rfl) (by kernel_rfl) (by kernel_rfl) (by intro _ _ _ h; exact h) (Or.inl ⟨by rfl, ?_⟩) (by assumption) ?_
    rotate_left
    · (intro w hSw; (try dsimp only at hSw); go_simp; all_goals with_reducible rfl)
    (try simp only [Act.put, List.setIfInBounds_toArray, List.set_cons_zero, List.set_cons_succ])
    refine wpAnyH_take (i := 6) (v := ?_) (by rw [List.getElem?_toArray]; rfl) (by kernel_rfl) (by kernel_rfl) (by kernel_rfl) (by intro _ _ _ h; exact h) (Or.inl ⟨by rfl, ?_⟩) (by assumption) ?_
    rotate_left
    · (intro w hSw; (try dsimp only at hSw); go_simp; all_goals with_reducible rfl)
    (try simp only [Act.put, List.setIfInBounds_toArray, List.set_cons_zero, List.set_cons_succ])
    refine wpAnyH_ready (rs := [3, 11]) (by kernel_rfl) (by simp) ?_
    refine (AllReadyH.cons (by rw [List.getElem?_toArray]; rfl) (fun K hK => ?_) (AllReadyH.cons (by rw [List.getElem?_toArray]; rfl) (fun K hK => ?_) AllReadyH.nil))
    · go_simp
      refine (knownAt_any _ _ _ _).mono ?_; rintro e v ⟨rfl, hb⟩; clear c0 c1 d0 d1 d2 d3 d4 e0 e1 e2 e3 e4 x0 x1 x2 x3 x4 p0 p1 p2 p3 p4 p5 q1 q2 q3 q4 q5; (try clear n0 n1 n2 n3 n4); (replace P := P.below hb); (try (replace N := N.below hb)); (replace B := B.trans (hb.mono B.size)); clear hb; obtain ⟨c0, c1, ⟨d0, d1, d2, d3, d4⟩, ⟨e0, e1, e2, e3, e4⟩, ⟨x0, x1, x2, x3, x4⟩, ⟨p0, p1, p2, p3, p4, p5, q1, q2, q3, q4, q5⟩⟩ := id P; (try (obtain ⟨n0, n1, n2, n3, n4⟩ := id N))
      (try go_wp2_with fail)
      refine hK.out _ _ ?_ (fun hHeld => ?_)
      · simp (maxDischargeDepth := 6) [go_sem, *]
      clear hK K
      (try simp only [Act.put, List.setIfInBounds_toArray, List.set_cons_zero, List.set_cons_succ])
      refine wpAnyH_ready (rs := [7, 11]) (by kernel_rfl) (by simp) ?_
      refine (AllReadyH.cons (by rw [List.getElem?_toArray]; rfl) (fun K hK => ?_) (AllReadyH.cons (by rw [List.getElem?_toArray]; rfl) (fun K hK => ?_) AllReadyH.nil))
      · go_simp
        refine (CC _).mono ?_; rintro e v ⟨rfl, hb⟩; clear c0 c1 d0 d1 d2 d3 d4 e0 e1 e2 e3 e4 x0 x1 x2 x3 x4 p0 p1 p2 p3 p4 p5 q1 q2 q3 q4 q5; (try clear n0 n1 n2 n3 n4); (replace P := P.below hb); (try (replace N := N.below hb)); (replace B := B.trans (hb.mono B.size)); clear hb; obtain ⟨c0, c1, ⟨d0, d1, d2, d3, d4⟩, ⟨e0, e1, e2, e3, e4⟩, ⟨x0, x1, x2, x3, x4⟩, ⟨p0, p1, p2, p3, p4, p5, q1, q2, q3, q4, q5⟩⟩ := id P; (try (obtain ⟨n0, n1, n2, n3, n4⟩ := id N))
        (try go_wp2_with fail)
        refine hK.out _ _ ?_ (fun hHeld => ?_)
        · simp (maxDischargeDepth := 6) [go_sem, *]
        clear hK K
        (try simp only [Act.put, List.setIfInBounds_toArray, List.set_cons_zero, List.set_cons_succ])
        refine wpAnyH_take (i := 8) (v := ?_) (by rw [List.getElem?_toArray]; rfl) (by kernel_rfl) (by kernel_rfl) (by kernel_rfl) (by intro _ _ _ h; exact h) (Or.inl ⟨by rfl, ?_⟩) (by assumption) ?_
        rotate_left
        · (intro w hSw; (try dsimp only at hSw); go_simp; all_goals with_reducible rfl)
        (try simp only [Act.put, List.setIfInBounds_toArray, List.set_cons_zero, List.set_cons_succ])
        refine wpAnyH_take (i := 9) (v := ?_) (by rw [List.getElem?_toArray]; rfl) (by kernel_rfl) (by kernel_rfl) (by kernel_rfl) (by intro _ _ _ h; exact h) (Or.inl ⟨by rfl, ?_⟩) (by assumption) ?_
        rotate_left
        · (intro w hSw; (try dsimp only at hSw); go_simp; all_goals with_reducible rfl)
        (try simp only [Act.put, List.setIfInBounds_toArray, List.set_cons_zero, List.set_cons_succ])
        refine wpAnyH_take (i := 10) (v := ?_) (by rw [List.getElem?_toArray]; rfl) (by kernel_rfl) (by kernel_rfl) (by kernel_rfl) (by intro _ _ _ h; exact h) (Or.inl ⟨by rfl, ?_⟩) (by assumption) ?_
        rotate_left
        · (intro w hSw; (try dsimp only at hSw); go_simp; all_goals with_reducible rfl)
        (try simp only [Act.put, List.setIfInBounds_toArray, List.set_cons_zero, List.set_cons_succ])
        refine wpAnyH_ready (rs := [11]) (by kernel_rfl) (by simp) ?_
        refine (AllReadyH.cons (by rw [List.getElem?_toArray]; rfl) (fun K hK => ?_) AllReadyH.nil)
        go_simp
        (have N := Bx.new v 0 0 27); (have hj : j + 1 < v.heap.size := p0); clear c0 c1 d0 d1 d2 d3 d4 e0 e1 e2 e3 e4 x0 x1 x2 x3 x4 p0 p1 p2 p3 p4 p5 q1 q2 q3 q4 q5; (try clear n0 n1 n2 n3 n4); (replace P := P.alloc (.cells #[.int .i64 0, .int .i64 0] 27)); (replace B := B.alloc B.size (.cells #[.int .i64 0, .int .i64 0] 27)); (generalize v.alloc (.cells #[.int .i64 0, .int .i64 0] 27) = v2 at *); obtain ⟨c0, c1, ⟨d0, d1, d2, d3, d4⟩, ⟨e0, e1, e2, e3, e4⟩, ⟨x0, x1, x2, x3, x4⟩, ⟨p0, p1, p2, p3, p4, p5, q1, q2, q3, q4, q5⟩⟩ := id P; (try (obtain ⟨n0, n1, n2, n3, n4⟩ := id N))
        refine hK.out _ _ ?_ (fun hHeld => ?_)
        · simp (maxDischargeDepth := 6) [go_sem, *]
        clear hK K
        (try simp only [Act.put, List.setIfInBounds_toArray, List.set_cons_zero, List.set_cons_succ])
        refine wpAnyH_ready (rs := [12]) (by kernel_rfl) (by simp) ?_
        refine (AllReadyH.cons (by rw [List.getElem?_toArray]; rfl) (fun K hK => ?_) AllReadyH.nil)
        go_simp
        refine hK.out _ _ ?_ (fun hHeld => ?_)
        · simp (maxDischargeDepth := 6) [go_sem, *]
        clear hK K
        (try simp only [Act.put, List.setIfInBounds_toArray, List.set_cons_zero, List.set_cons_succ])
        refine wpAnyH_take (i := 13) (v := ?_) (by rw [List.getElem?_toArray]; rfl) (by kernel_rfl) (by kernel_rfl) (by kernel_rfl) (by intro _ _ _ h; exact h) (Or.inl ⟨by rfl, ?_⟩) (by assumption) ?_
        rotate_left
        · (intro w hSw; (try dsimp only at hSw); go_simp; all_goals with_reducible rfl)
        (try simp only [Act.put, List.setIfInBounds_toArray, List.set_cons_zero, List.set_cons_succ])
        refine wpAnyH_done (by kernel_rfl) ?_ _
        go_wp2_with fail
        go_meet
        case rel => exact ⟨_, rfl, rfl, N.setI U V, hj, P.putI (by omega) (by omega) U V, Below.setI B (by omega) U V⟩
      · go_simp
        (have N := Bx.new v 0 0 27); (have hj : j + 1 < v.heap.size := p0); clear c0 c1 d0 d1 d2 d3 d4 e0 e1 e2 e3 e4 x0 x1 x2 x3 x4 p0 p1 p2 p3 p4 p5 q1 q2 q3 q4 q5; (try clear n0 n1 n2 n3 n4); (replace P := P.alloc (.cells #[.int .i64 0, .int .i64 0] 27)); (replace B := B.alloc B.size (.cells #[.int .i64 0, .int .i64 0] 27)); (generalize v.alloc (.cells #[.int .i64 0, .int .i64 0] 27) = v2 at *); obtain ⟨c0, c1, ⟨d0, d1, d2, d3, d4⟩, ⟨e0, e1, e2, e3, e4⟩, ⟨x0, x1, x2, x3, x4⟩, ⟨p0, p1, p2, p3, p4, p5, q1, q2, q3, q4, q5⟩⟩ := id P; (try (obtain ⟨n0, n1, n2, n3, n4⟩ := id N))
        refine hK.out _ _ ?_ (fun hHeld => ?_)
        · simp (maxDischargeDepth := 6) [go_sem, *]
        clear hK K
        (try simp only [Act.put, List.setIfInBounds_toArray, List.set_cons_zero, List.set_cons_succ])
        refine wpAnyH_ready (rs := [7]) (by kernel_rfl) (by simp) ?_
        refine (AllReadyH.cons (by rw [List.getElem?_toArray]; rfl) (fun K hK => ?_) AllReadyH.nil)
        go_simp
        refine (CC _).mono ?_; rintro e v ⟨rfl, hb⟩; clear c0 c1 d0 d1 d2 d3 d4 e0 e1 e2 e3 e4 x0 x1 x2 x3 x4 p0 p1 p2 p3 p4 p5 q1 q2 q3 q4 q5; (try clear n0 n1 n2 n3 n4); (replace P := P.below hb); (try (replace N := N.below hb)); (replace B := B.trans (hb.mono B.size)); clear hb; obtain ⟨c0, c1, ⟨d0, d1, d2, d3, d4⟩, ⟨e0, e1, e2, e3, e4⟩, ⟨x0, x1, x2, x3, x4⟩, ⟨p0, p1, p2, p3, p4, p5, q1, q2, q3, q4, q5⟩⟩ := id P; (try (obtain ⟨n0, n1, n2, n3, n4⟩ := id N))
        (try go_wp2_with fail)
        refine hK.out _ _ ?_ (fun hHeld => ?_)
        · simp (maxDischargeDepth := 6) [go_sem, *]
        clear hK K
        (try simp only [Act.put, List.setIfInBounds_toArray, List.set_cons_zero, List.set_cons_succ])
        refine wpAnyH_take (i := 8) (v := ?_) (by rw [List.getElem?_toArray]; rfl) (by kernel_rfl) (by kernel_rfl) (by kernel_rfl) (by intro _ _ _ h; exact h) (Or.inl ⟨by rfl, ?_⟩) (by assumption) ?_
        rotate_left
        · (intro w hSw; (try dsimp only at hSw); go_simp; all_goals with_reducible rfl)
        (try simp only [Act.put, List.setIfInBounds_toArray, List.set_cons_zero, List.set_cons_succ])
        refine wpAnyH_take (i := 9) (v := ?_) (by rw [List.getElem?_toArray]; rfl) (by kernel_rfl) (by kernel_rfl) (by kernel_rfl) (by intro _ _ _ h; exact h) (Or.inl ⟨by rfl, ?_⟩) (by assumption) ?_
        rotate_left
        · (intro w hSw; (try dsimp only at hSw); go_simp; all_goals with_reducible rfl)
        (try simp only [Act.put, List.setIfInBounds_toArray, List.set_cons_zero, List.set_cons_succ])
        refine wpAnyH_take (i := 10) (v := ?_) (by rw [List.getElem?_toArray]; rfl) (by kernel_rfl) (by kernel_rfl) (by kernel_rfl) (by intro _ _ _ h; exact h) (Or.inl ⟨by rfl, ?_⟩) (by assumption) ?_
        rotate_left
        · (intro w hSw; (try dsimp only at hSw); go_simp; all_goals with_reducible rfl)
        (try simp only [Act.put, List.setIfInBounds_toArray, List.set_cons_zero, List.set_cons_succ])
        refine wpAnyH_ready (rs := [12]) (by kernel_rfl) (by simp) ?_
        refine (AllReadyH.cons (by rw [List.getElem?_toArray]; rfl) (fun K hK => ?_) AllReadyH.nil)
        go_simp
        refine hK.out _ _ ?_ (fun hHeld => ?_)
        · simp (maxDischargeDepth := 6) [go_sem, *]
        clear hK K
        (try simp only [Act.put, List.setIfInBounds_toArray, List.set_cons_zero, List.set_cons_succ])
        refine wpAnyH_take (i := 13) (v := ?_) (by rw [List.getElem?_toArray]; rfl) (by kernel_rfl) (by kernel_rfl) (by kernel_rfl) (by intro _ _ _ h; exact h) (Or.inl ⟨by rfl, ?_⟩) (by assumption) ?_
        rotate_left
        · (intro w hSw; (try dsimp only at hSw); go_simp; all_goals with_reducible rfl)
        (try simp only [Act.put, List.setIfInBounds_toArray, List.set_cons_zero, List.set_cons_succ])
        refine wpAnyH_done (by kernel_rfl) ?_ _
        go_wp2_with fail
        go_meet
        case rel => exact ⟨_, rfl, rfl, N.setI U V, hj, P.putI (by omega) (by omega) U V, Below.setI B (by omega) U V⟩
    · go_simp
      (have N := Bx.new v 0 0 27); (have hj : j + 1 < v.heap.size := p0); clear c0 c1 d0 d1 d2 d3 d4 e0 e1 e2 e3 e4 x0 x1 x2 x3 x4 p0 p1 p2 p3 p4 p5 q1 q2 q3 q4 q5; (try clear n0 n1 n2 n3 n4); (replace P := P.alloc (.cells #[.int .i64 0, .int .i64 0] 27)); (replace B := B.alloc B.size (.cells #[.int .i64 0, .int .i64 0] 27)); (generalize v.alloc (.cells #[.int .i64 0, .int .i64 0] 27) = v2 at *); obtain ⟨c0, c1, ⟨d0, d1, d2, d3, d4⟩, ⟨e0, e1, e2, e3, e4⟩, ⟨x0, x1, x2, x3, x4⟩, ⟨p0, p1, p2, p3, p4, p5, q1, q2, q3, q4, q5⟩⟩ := id P; (try (obtain ⟨n0, n1, n2, n3, n4⟩ := id N))
      refine hK.out _ _ ?_ (fun hHeld => ?_)
      · simp (maxDischargeDepth := 6) [go_sem, *]
      clear hK K
      (try simp only [Act.put, List.setIfInBounds_toArray, List.set_cons_zero, List.set_cons_succ])
      refine wpAnyH_ready (rs := [3]) (by kernel_rfl) (by simp) ?_
      refine (AllReadyH.cons (by rw [List.getElem?_toArray]; rfl) (fun K hK => ?_) AllReadyH.nil)
      go_simp
      refine (knownAt_any _ _ _ _).mono ?_; rintro e v ⟨rfl, hb⟩; clear c0 c1 d0 d1 d2 d3 d4 e0 e1 e2 e3 e4 x0 x1 x2 x3 x4 p0 p1 p2 p3 p4 p5 q1 q2 q3 q4 q5; (try clear n0 n1 n2 n3 n4); (replace P := P.below hb); (try (replace N := N.below hb)); (replace B := B.trans (hb.mono B.size)); clear hb; obtain ⟨c0, c1, ⟨d0, d1, d2, d3, d4⟩, ⟨e0, e1, e2, e3, e4⟩, ⟨x0, x1, x2, x3, x4⟩, ⟨p0, p1, p2, p3, p4, p5, q1, q2, q3, q4, q5⟩⟩ := id P; (try (obtain ⟨n0, n1, n2, n3, n4⟩ := id N))
      (try go_wp2_with fail)
      refine hK.out _ _ ?_ (fun hHeld => ?_)
      · simp (maxDischargeDepth := 6) [go_sem, *]
      clear hK K
      (try simp only [Act.put, List.setIfInBounds_toArray, List.set_cons_zero, List.set_cons_succ])
      refine wpAnyH_ready (rs := [7]) (by kernel_rfl) (by simp) ?_
      refine (AllReadyH.cons (by rw [List.getElem?_toArray]; rfl) (fun K hK => ?_) AllReadyH.nil)
      go_simp
      refine (CC _).mono ?_; rintro e v ⟨rfl, hb⟩; clear c0 c1 d0 d1 d2 d3 d4 e0 e1 e2 e3 e4 x0 x1 x2 x3 x4 p0 p1 p2 p3 p4 p5 q1 q2 q3 q4 q5; (try clear n0 n1 n2 n3 n4); (replace P := P.below hb); (try (replace N := N.below hb)); (replace B := B.trans (hb.mono B.size)); clear hb; obtain ⟨c0, c1, ⟨d0, d1, d2, d3, d4⟩, ⟨e0, e1, e2, e3, e4⟩, ⟨x0, x1, x2, x3, x4⟩, ⟨p0, p1, p2, p3, p4, p5, q1, q2, q3, q4, q5⟩⟩ := id P; (try (obtain ⟨n0, n1, n2, n3, n4⟩ := id N))
      (try go_wp2_with fail)
      refine hK.out _ _ ?_ (fun hHeld => ?_)
      · simp (maxDischargeDepth := 6) [go_sem, *]
      clear hK K
      (try simp only [Act.put, List.setIfInBounds_toArray, List.set_cons_zero, List.set_cons_succ])
      refine wpAnyH_take (i := 8) (v := ?_) (by rw [List.getElem?_toArray]; rfl) (by kernel_rfl) (by kernel_rfl) (by kernel_rfl) (by intro _ _ _ h; exact h) (Or.inl ⟨by rfl, ?_⟩) (by assumption) ?_
      rotate_left
      · (intro w hSw; (try dsimp only at hSw); go_simp; all_goals with_reducible rfl)
      (try simp only [Act.put, List.setIfInBounds_toArray, List.set_cons_zero, List.set_cons_succ])
      refine wpAnyH_take (i := 9) (v := ?_) (by rw [List.getElem?_toArray]; rfl) (by kernel_rfl) (by kernel_rfl) (by kernel_rfl) (by intro _ _ _ h; exact h) (Or.inl ⟨by rfl, ?_⟩) (by assumption) ?_
      rotate_left
      · (intro w hSw; (try dsimp only at hSw); go_simp; all_goals with_reducible rfl)
      (try simp only [Act.put, List.setIfInBounds_toArray, List.set_cons_zero, List.set_cons_succ])
      refine wpAnyH_take (i := 10) (v := ?_) (by rw [List.getElem?_toArray]; rfl) (by kernel_rfl) (by kernel_rfl) (by kernel_rfl) (by intro _ _ _ h; exact h) (Or.inl ⟨by rfl, ?_⟩) (by assumption) ?_
      rotate_left
      · (intro w hSw; (try dsimp only at hSw); go_simp; all_goals with_reducible rfl)
      (try simp only [Act.put, List.setIfInBounds_toArray, List.set_cons_zero, List.set_cons_succ])
      refine wpAnyH_ready (rs := [12]) (by kernel_rfl) (by simp) ?_
      refine (AllReadyH.cons (by rw [List.getElem?_toArray]; rfl) (fun K hK => ?_) AllReadyH.nil)
      go_simp
      refine hK.out _ _ ?_ (fun hHeld => ?_)
      · simp (maxDischargeDepth := 6) [go_sem, *]
      clear hK K
      (try simp only [Act.put, List.setIfInBounds_toArray, List.set_cons_zero, List.set_cons_succ])
      refine wpAnyH_take (i := 13) (v := ?_) (by rw [List.getElem?_toArray]; rfl) (by kernel_rfl) (by kernel_rfl) (by kernel_rfl) (by intro _ _ _ h; exact h) (Or.inl ⟨by rfl, ?_⟩) (by assumption) ?_
      rotate_left
      · (intro w hSw; (try dsimp only at hSw); go_simp; all_goals with_reducible rfl)
      (try simp only [Act.put, List.setIfInBounds_toArray, List.set_cons_zero, List.set_cons_succ])
      refine wpAnyH_done (by kernel_rfl) ?_ _
      go_wp2_with fail
      go_meet
      case rel => exact ⟨_, rfl, rfl, N.setI U V, hj, P.putI (by omega) (by omega) U V, Below.setI B (by omega) U V⟩
  case rest =>
    obtain ⟨k, rfl, rfl, N, hk, P', B'⟩ := hcut
    clear P B c0 c1 d0 d1 d2 d3 d4 e0 e1 e2 e3 e4 x0 x1 x2 x3 x4 p0 p1 p2 p3 p4 p5 q1 q2 q3 q4 q5
    obtain ⟨c0, c1, ⟨d0, d1, d2, d3, d4⟩, ⟨e0, e1, e2, e3, e4⟩, ⟨x0, x1, x2, x3, x4⟩, ⟨p0, p1, p2, p3, p4, p5, q1, q2, q3, q4, q5⟩⟩ := P'
    obtain ⟨n0, n1, n2, n3, n4⟩ := N
    go_wp2
    exact bodyPost_ret (v := .tuple #[.agg #[.int .i64 0, .int .i64 0], .int .i64 2]) (by simp (maxDischargeDepth := 6) [results, Try.results41, go_sem, *]) rfl ⟨rfl, by repeat (first | exact B' | refine Below.drew ?_ | refine Below.alloc ?_ (by first | (simp; done) | (simp; omega) | omega) _ | refine Below.setCell ?_ (by first | (simp; done) | (simp; omega) | omega) _)⟩
set_option maxRecDepth 100000 in
set_option maxHeartbeats 8000000 in
theorem carried_well (n d fr lo hi s g a : Int) (w : World) (h : tbC n d fr lo hi s g = 0) (ha : g ≤ a ∧ a ≤ 1000000000000) (hz : crC true (tbL n d fr lo hi s g) (tbH n d fr lo hi s g) g n d a = 0) :
    Calls Try.prog 41 #[.agg #[.iface 29 (.agg #[.int .i64 fr, .int .i64 lo, .int .i64 hi, .int .i64 s, .int .i64 g]), .int .i64 a], .agg #[.int .i64 n, .int .i64 d]] w fun e w' => e = .returned (.tuple #[.agg #[.int .i64 (crL true (tbL n d fr lo hi s g) (tbH n d fr lo hi s g) g n d a), .int .i64 (crH true (tbL n d fr lo hi s g) (tbH n d fr lo hi s g) g n d a)], .int .i64 0]) ∧ Below w.heap.size w w' := by
  have CT := fun w' => tripBounds_any n d fr lo hi s g w'
  have CC := fun w' => implCarryOn_any true (tbL n d fr lo hi s g) (tbH n d fr lo hi s g) g n d a w'
  rw [h] at CT
  rw [hz] at CC
  have a1 : decide (a < g) = false := by simp; omega
  have a2 : decide (1000000000000 < a) = false := by simp; omega
  clear h ha hz
  have AS := as_trip fr lo hi s g
  generalize crL true (tbL n d fr lo hi s g) (tbH n d fr lo hi s g) g n d a = U at *
  generalize crH true (tbL n d fr lo hi s g) (tbH n d fr lo hi s g) g n d a = V at *
  generalize tbL n d fr lo hi s g = X at *
  generalize tbH n d fr lo hi s g = Y at *
  have P0 : (w.alloc (.cells #[.iface 29 (.agg #[.int .i64 fr, .int .i64 lo, .int .i64 hi, .int .i64 s, .int .i64 g]), .int .i64 a] 64)).cell? ⟨w.heap.size, 1, none⟩ = some (.int .i64 a) := by simp
  have P1 := Bx.new (w.alloc (.cells #[.iface 29 (.agg #[.int .i64 fr, .int .i64 lo, .int .i64 hi, .int .i64 s, .int .i64 g]), .int .i64 a] 64)) n d 25
  have P2 := Bx.new ((w.alloc (.cells #[.iface 29 (.agg #[.int .i64 fr, .int .i64 lo, .int .i64 hi, .int .i64 s, .int .i64 g]), .int .i64 a] 64)).alloc (.cells #[.int .i64 n, .int .i64 d] 25)) 0 0 27
  simp only [World.size_alloc] at P1 P2
  replace P1 := P1.alloc (.cells #[.int .i64 0, .int .i64 0] 27)
  have B : Below w.heap.size w (((w.alloc (.cells #[.iface 29 (.agg #[.int .i64 fr, .int .i64 lo, .int .i64 hi, .int .i64 s, .int .i64 g]), .int .i64 a] 64)).alloc (.cells #[.int .i64 n, .int .i64 d] 25)).alloc (.cells #[.int .i64 0, .int .i64 0] 27)) := ((Below.alc _ _).alloc (by first | (simp; done) | (simp; omega) | omega) _).alloc (by first | (simp; done) | (simp; omega) | omega) _
  replace P0 : (((w.alloc (.cells #[.iface 29 (.agg #[.int .i64 fr, .int .i64 lo, .int .i64 hi, .int .i64 s, .int .i64 g]), .int .i64 a] 64)).alloc (.cells #[.int .i64 n, .int .i64 d] 25)).alloc (.cells #[.int .i64 0, .int .i64 0] 27)).cell? ⟨w.heap.size, 1, none⟩ = some (.int .i64 a) := by rw [(Below.alc _ _).cell (p := ⟨w.heap.size, 1, none⟩) (by simp only [World.size_alloc]; omega), (Below.alc _ _).cell (p := ⟨w.heap.size, 1, none⟩) (by simp only [World.size_alloc]; omega)]; exact P0
  have hs : w.heap.size < (((w.alloc (.cells #[.iface 29 (.agg #[.int .i64 fr, .int .i64 lo, .int .i64 hi, .int .i64 s, .int .i64 g]), .int .i64 a] 64)).alloc (.cells #[.int .i64 n, .int .i64 d] 25)).alloc (.cells #[.int .i64 0, .int .i64 0] 27)).heap.size := by simp only [World.size_alloc]; omega
  go_enter Try.func41, Try.ntmps41
  go_wp2_with fail
  refine (CT _).mono ?_
  rintro e v ⟨rfl, hb⟩
  have P : Cy ((v.alloc (.cells #[.int .i64 X, .int .i64 Y] 27)).alloc (.cells #[.int .i64 fr, .int .i64 lo, .int .i64 hi, .int .i64 s, .int .i64 g] 29)) w.heap.size v.heap.size a n d X Y fr lo hi s g := Cy.mk hs P0 P1 P2 hb X Y fr lo hi s g 27 29
  replace B := B.trans (hb.mono B.size)
  replace B := (B.alloc B.size (.cells #[.int .i64 X, .int .i64 Y] 27)).alloc (Nat.le_trans B.size (by simp)) (.cells #[.int .i64 fr, .int .i64 lo, .int .i64 hi, .int .i64 s, .int .i64 g] 29)
  obtain ⟨c0, c1, ⟨d0, d1, d2, d3, d4⟩, ⟨e0, e1, e2, e3, e4⟩, ⟨x0, x1, x2, x3, x4⟩, ⟨p0, p1, p2, p3, p4, p5, q1, q2, q3, q4, q5⟩⟩ := id P
  obtain ⟨hc, hf⟩ := bcell hb
  have hz := hb.size
  simp at hz
  have hv0 : w.heap.size < v.heap.size := by omega
  have hv1 : w.heap.size + 1 < v.heap.size := by omega
  have hv2 : w.heap.size + 1 + 1 < v.heap.size := by omega
  clear CT hb P0 P1 P2 hs
  go_wp2_with fail
  clear hc hf hz
  generalize v.heap.size = j at *
  generalize (v.alloc (.cells #[.int .i64 X, .int .i64 Y] 27)).alloc (.cells #[.int .i64 fr, .int .i64 lo, .int .i64 hi, .int .i64 s, .int .i64 g] 29) = v at *
  go_cut [10, 11] (fun s5 s6 wx => ∃ k : Nat, s5 = .pointer (some ⟨k, 0, none⟩) ∧ s6 = .int .i64 0 ∧ Bx wx k U V ∧ j + 1 < k ∧ Cy wx w.heap.size j a n d X Y fr lo hi s g ∧ Below w.heap.size w wx)
  case first =>
    refine wp_region_held_drew (S := (fun w' => w'.cell? ⟨w.heap.size, 1, none⟩ = some (.int .i64 a) ∧ w'.cell? ⟨w.heap.size + 1, 0, none⟩ = some (.int .i64 n) ∧ w'.cell? ⟨w.heap.size + 1, 1, none⟩ = some (.int .i64 d) ∧ w'.cell? ⟨j, 0, none⟩ = some (.int .i64 X) ∧ w'.cell? ⟨j, 1, none⟩ = some (.int .i64 Y) ∧ w'.cell? ⟨j + 1, 4, none⟩ = some (.int .i64 g))) (by kernel_rfl) ?_ (fun hHeld => ?_)
    · simp (maxDischargeDepth := 6) [go_sem, *]
    clear c0 c1 d0 d1 d2 d3 d4 e0 e1 e2 e3 e4 x0 x1 x2 x3 x4 p0 p1 p2 p3 p4 p5 q1 q2 q3 q4 q5; (try clear n0 n1 n2 n3 n4)
    replace P := P.drew
    replace B := B.drew
    generalize v.drew = v at *
    obtain ⟨c0, c1, ⟨d0, d1, d2, d3, d4⟩, ⟨e0, e1, e2, e3, e4⟩, ⟨x0, x1, x2, x3, x4⟩, ⟨p0, p1, p2, p3, p4, p5, q1, q2, q3, q4, q5⟩⟩ := id P; (try (obtain ⟨n0, n1, n2, n3, n4⟩ := id N))
    refine wpAnyH_take (i := 0) (v := ?_) (by rw [List.getElem?_toArray]; rfl) (by kernel_rfl) (by kernel_rfl) (by kernel_rfl) (by intro _ _ _ h; exact h) (Or.inl ⟨by rfl, ?_⟩) (by assumption) ?_
    rotate_left
    · (intro w hSw; (try dsimp only at hSw); go_simp; all_goals with_reducible rfl)
    (try simp only [Act.put, List.setIfInBounds_toArray, List.set_cons_zero, List.set_cons_succ])
    refine wpAnyH_take (i := 1) (v := ?_) (by rw [List.getElem?_toArray]; rfl) (by kernel_rfl) (by kernel_rfl) (by kernel_rfl) (by intro _ _ _ h; exact h) (Or.inl ⟨by rfl, ?_⟩) (by assumption) ?_
    rotate_left
    · (intro w hSw; (try dsimp only at hSw); go_simp; all_goals with_reducible rfl)
    (try simp only [Act.put, List.setIfInBounds_toArray, List.set_cons_zero, List.set_cons_succ])
    refine wpAnyH_take (i := 2) (v := ?_) (by rw [List.getElem?_toArray]; rfl) (by kernel_rfl) (by kernel_rfl) (by kernel_rfl) (by intro _ _ _ h; exact h) (Or.inl ⟨by rfl, ?_⟩) (by assumption) ?_
    rotate_left
    · (intro w hSw; (try dsimp only at hSw); go_simp; all_goals with_reducible rfl)
    (try simp only [Act.put, List.setIfInBounds_toArray, List.set_cons_zero, List.set_cons_succ])
    refine wpAnyH_take (i := 4) (v := ?_) (by rw [List.getElem?_toArray]; rfl) (by kernel_rfl) (by kernel_rfl) (by kernel_rfl) (by intro _ _ _ h; exact h) (Or.inl ⟨by rfl, ?_⟩) (by assumption) ?_
    rotate_left
    · (intro w hSw; (try dsimp only at hSw); go_simp; all_goals with_reducible rfl)
    (try simp only [Act.put, List.setIfInBounds_toArray, List.set_cons_zero, List.set_cons_succ])
    refine wpAnyH_take (i := 5) (v := ?_) (by rw [List.getElem?_toArray]; rfl) (by kernel_rfl) (by kernel_rfl) (by kernel_rfl) (by intro _ _ _ h; exact h) (Or.inl ⟨by rfl, ?_⟩) (by assumption) ?_
    rotate_left
    · (intro w hSw; (try dsimp only at hSw); go_simp; all_goals with_reducible rfl)
    (try simp only [Act.put, List.setIfInBounds_toArray, List.set_cons_zero, List.set_cons_succ])
    refine wpAnyH_take (i := 6) (v := ?_) (by rw [List.getElem?_toArray]; rfl) (by kernel_rfl) (by kernel_rfl) (by kernel_rfl) (by intro _ _ _ h; exact h) (Or.inl ⟨by rfl, ?_⟩) (by assumption) ?_
    rotate_left
    · (intro w hSw; (try dsimp only at hSw); go_simp; all_goals with_reducible rfl)
    (try simp only [Act.put, List.setIfInBounds_toArray, List.set_cons_zero, List.set_cons_succ])
    refine wpAnyH_ready (rs := [3, 11]) (by kernel_rfl) (by simp) ?_
    refine (AllReadyH.cons (by rw [List.getElem?_toArray]; rfl) (fun K hK => ?_) (AllReadyH.cons (by rw [List.getElem?_toArray]; rfl) (fun K hK => ?_) AllReadyH.nil))
    · go_simp
      refine (knownAt_any _ _ _ _).mono ?_; rintro e v ⟨rfl, hb⟩; clear c0 c1 d0 d1 d2 d3 d4 e0 e1 e2 e3 e4 x0 x1 x2 x3 x4 p0 p1 p2 p3 p4 p5 q1 q2 q3 q4 q5; (try clear n0 n1 n2 n3 n4); (replace P := P.below hb); (try (replace N := N.below hb)); (replace B := B.trans (hb.mono B.size)); clear hb; obtain ⟨c0, c1, ⟨d0, d1, d2, d3, d4⟩, ⟨e0, e1, e2, e3, e4⟩, ⟨x0, x1, x2, x3, x4⟩, ⟨p0, p1, p2, p3, p4, p5, q1, q2, q3, q4, q5⟩⟩ := id P; (try (obtain ⟨n0, n1, n2, n3, n4⟩ := id N))
      (try go_wp2_with fail)
      refine hK.out _ _ ?_ (fun hHeld => ?_)
      · simp (maxDischargeDepth := 6) [go_sem, *]
      clear hK K
      (try simp only [Act.put, List.setIfInBounds_toArray, List.set_cons_zero, List.set_cons_succ])
      refine wpAnyH_ready (rs := [7, 11]) (by kernel_rfl) (by simp) ?_
      refine (AllReadyH.cons (by rw [List.getElem?_toArray]; rfl) (fun K hK => ?_) (AllReadyH.cons (by rw [List.getElem?_toArray]; rfl) (fun K hK => ?_) AllReadyH.nil))
      · go_simp
        refine (CC _).mono ?_; rintro e v ⟨rfl, hb⟩; clear c0 c1 d0 d1 d2 d3 d4 e0 e1 e2 e3 e4 x0 x1 x2 x3 x4 p0 p1 p2 p3 p4 p5 q1 q2 q3 q4 q5; (try clear n0 n1 n2 n3 n4); (replace P := P.below hb); (try (replace N := N.below hb)); (replace B := B.trans (hb.mono B.size)); clear hb; obtain ⟨c0, c1, ⟨d0, d1, d2, d3, d4⟩, ⟨e0, e1, e2, e3, e4⟩, ⟨x0, x1, x2, x3, x4⟩, ⟨p0, p1, p2, p3, p4, p5, q1, q2, q3, q4, q5⟩⟩ := id P; (try (obtain ⟨n0, n1, n2, n3, n4⟩ := id N))
        (try go_wp2_with fail)
        refine hK.out _ _ ?_ (fun hHeld => ?_)
        · simp (maxDischargeDepth := 6) [go_sem, *]
        clear hK K
        (try simp only [Act.put, List.setIfInBounds_toArray, List.set_cons_zero, List.set_cons_succ])
        refine wpAnyH_take (i := 8) (v := ?_) (by rw [List.getElem?_toArray]; rfl) (by kernel_rfl) (by kernel_rfl) (by kernel_rfl) (by intro _ _ _ h; exact h) (Or.inl ⟨by rfl, ?_⟩) (by assumption) ?_
        rotate_left
        · (intro w hSw; (try dsimp only at hSw); go_simp; all_goals with_reducible rfl)
        (try simp only [Act.put, List.setIfInBounds_toArray, List.set_cons_zero, List.set_cons_succ])
        refine wpAnyH_take (i := 9) (v := ?_) (by rw [List.getElem?_toArray]; rfl) (by kernel_rfl) (by kernel_rfl) (by kernel_rfl) (by intro _ _ _ h; exact h) (Or.inl ⟨by rfl, ?_⟩) (by assumption) ?_
        rotate_left
        · (intro w hSw; (try dsimp only at hSw); go_simp; all_goals with_reducible rfl)
        (try simp only [Act.put, List.setIfInBounds_toArray, List.set_cons_zero, List.set_cons_succ])
        refine wpAnyH_take (i := 10) (v := ?_) (by rw [List.getElem?_toArray]; rfl) (by kernel_rfl) (by kernel_rfl) (by kernel_rfl) (by intro _ _ _ h; exact h) (Or.inl ⟨by rfl, ?_⟩) (by assumption) ?_
        rotate_left
        · (intro w hSw; (try dsimp only at hSw); go_simp; all_goals with_reducible rfl)
        (try simp only [Act.put, List.setIfInBounds_toArray, List.set_cons_zero, List.set_cons_succ])
        refine wpAnyH_ready (rs := [11]) (by kernel_rfl) (by simp) ?_
        refine (AllReadyH.cons (by rw [List.getElem?_toArray]; rfl) (fun K hK => ?_) AllReadyH.nil)
        go_simp
        (have N := Bx.new v 0 0 27); (have hj : j + 1 < v.heap.size := p0); clear c0 c1 d0 d1 d2 d3 d4 e0 e1 e2 e3 e4 x0 x1 x2 x3 x4 p0 p1 p2 p3 p4 p5 q1 q2 q3 q4 q5; (try clear n0 n1 n2 n3 n4); (replace P := P.alloc (.cells #[.int .i64 0, .int .i64 0] 27)); (replace B := B.alloc B.size (.cells #[.int .i64 0, .int .i64 0] 27)); (generalize v.alloc (.cells #[.int .i64 0, .int .i64 0] 27) = v2 at *); obtain ⟨c0, c1, ⟨d0, d1, d2, d3, d4⟩, ⟨e0, e1, e2, e3, e4⟩, ⟨x0, x1, x2, x3, x4⟩, ⟨p0, p1, p2, p3, p4, p5, q1, q2, q3, q4, q5⟩⟩ := id P; (try (obtain ⟨n0, n1, n2, n3, n4⟩ := id N))
        refine hK.out _ _ ?_ (fun hHeld => ?_)
        · simp (maxDischargeDepth := 6) [go_sem, *]
        clear hK K
        (try simp only [Act.put, List.setIfInBounds_toArray, List.set_cons_zero, List.set_cons_succ])
        refine wpAnyH_ready (rs := [12]) (by kernel_rfl) (by simp) ?_
        refine (AllReadyH.cons (by rw [List.getElem?_toArray]; rfl) (fun K hK => ?_) AllReadyH.nil)
        go_simp
        refine hK.out _ _ ?_ (fun hHeld => ?_)
        · simp (maxDischargeDepth := 6) [go_sem, *]
        clear hK K
        (try simp only [Act.put, List.setIfInBounds_toArray, List.set_cons_zero, List.set_cons_succ])
        refine wpAnyH_take (i := 13) (v := ?_) (by rw [List.getElem?_toArray]; rfl) (by kernel_rfl) (by kernel_rfl) (by kernel_rfl) (by intro _ _ _ h; exact h) (Or.inl ⟨by rfl, ?_⟩) (by assumption) ?_
        rotate_left
        · (intro w hSw; (try dsimp only at hSw); go_simp; all_goals with_reducible rfl)
        (try simp only [Act.put, List.setIfInBounds_toArray, List.set_cons_zero, List.set_cons_succ])
        refine wpAnyH_done (by kernel_rfl) ?_ _
        go_wp2_with fail
        go_meet
        case rel => exact ⟨_, rfl, rfl, N.setI U V, hj, P.putI (by omega) (by omega) U V, Below.setI B (by omega) U V⟩
      · go_simp
        (have N := Bx.new v 0 0 27); (have hj : j + 1 < v.heap.size := p0); clear c0 c1 d0 d1 d2 d3 d4 e0 e1 e2 e3 e4 x0 x1 x2 x3 x4 p0 p1 p2 p3 p4 p5 q1 q2 q3 q4 q5; (try clear n0 n1 n2 n3 n4); (replace P := P.alloc (.cells #[.int .i64 0, .int .i64 0] 27)); (replace B := B.alloc B.size (.cells #[.int .i64 0, .int .i64 0] 27)); (generalize v.alloc (.cells #[.int .i64 0, .int .i64 0] 27) = v2 at *); obtain ⟨c0, c1, ⟨d0, d1, d2, d3, d4⟩, ⟨e0, e1, e2, e3, e4⟩, ⟨x0, x1, x2, x3, x4⟩, ⟨p0, p1, p2, p3, p4, p5, q1, q2, q3, q4, q5⟩⟩ := id P; (try (obtain ⟨n0, n1, n2, n3, n4⟩ := id N))
        refine hK.out _ _ ?_ (fun hHeld => ?_)
        · simp (maxDischargeDepth := 6) [go_sem, *]
        clear hK K
        (try simp only [Act.put, List.setIfInBounds_toArray, List.set_cons_zero, List.set_cons_succ])
        refine wpAnyH_ready (rs := [7]) (by kernel_rfl) (by simp) ?_
        refine (AllReadyH.cons (by rw [List.getElem?_toArray]; rfl) (fun K hK => ?_) AllReadyH.nil)
        go_simp
        refine (CC _).mono ?_; rintro e v ⟨rfl, hb⟩; clear c0 c1 d0 d1 d2 d3 d4 e0 e1 e2 e3 e4 x0 x1 x2 x3 x4 p0 p1 p2 p3 p4 p5 q1 q2 q3 q4 q5; (try clear n0 n1 n2 n3 n4); (replace P := P.below hb); (try (replace N := N.below hb)); (replace B := B.trans (hb.mono B.size)); clear hb; obtain ⟨c0, c1, ⟨d0, d1, d2, d3, d4⟩, ⟨e0, e1, e2, e3, e4⟩, ⟨x0, x1, x2, x3, x4⟩, ⟨p0, p1, p2, p3, p4, p5, q1, q2, q3, q4, q5⟩⟩ := id P; (try (obtain ⟨n0, n1, n2, n3, n4⟩ := id N))
        (try go_wp2_with fail)
        refine hK.out _ _ ?_ (fun hHeld => ?_)
        · simp (maxDischargeDepth := 6) [go_sem, *]
        clear hK K
        (try simp only [Act.put, List.setIfInBounds_toArray, List.set_cons_zero, List.set_cons_succ])
        refine wpAnyH_take (i := 8) (v := ?_) (by rw [List.getElem?_toArray]; rfl) (by kernel_rfl) (by kernel_rfl) (by kernel_rfl) (by intro _ _ _ h; exact h) (Or.inl ⟨by rfl, ?_⟩) (by assumption) ?_
        rotate_left
        · (intro w hSw; (try dsimp only at hSw); go_simp; all_goals with_reducible rfl)
        (try simp only [Act.put, List.setIfInBounds_toArray, List.set_cons_zero, List.set_cons_succ])
        refine wpAnyH_take (i := 9) (v := ?_) (by rw [List.getElem?_toArray]; rfl) (by kernel_rfl) (by kernel_rfl) (by kernel_rfl) (by intro _ _ _ h; exact h) (Or.inl ⟨by rfl, ?_⟩) (by assumption) ?_
        rotate_left
        · (intro w hSw; (try dsimp only at hSw); go_simp; all_goals with_reducible rfl)
        (try simp only [Act.put, List.setIfInBounds_toArray, List.set_cons_zero, List.set_cons_succ])
        refine wpAnyH_take (i := 10) (v := ?_) (by rw [List.getElem?_toArray]; rfl) (by kernel_rfl) (by kernel_rfl) (by kernel_rfl) (by intro _ _ _ h; exact h) (Or.inl ⟨by rfl, ?_⟩) (by assumption) ?_
        rotate_left
        · (intro w hSw; (try dsimp only at hSw); go_simp; all_goals with_reducible rfl)
        (try simp only [Act.put, List.setIfInBounds_toArray, List.set_cons_zero, List.set_cons_succ])
        refine wpAnyH_ready (rs := [12]) (by kernel_rfl) (by simp) ?_
        refine (AllReadyH.cons (by rw [List.getElem?_toArray]; rfl) (fun K hK => ?_) AllReadyH.nil)
        go_simp
        refine hK.out _ _ ?_ (fun hHeld => ?_)
        · simp (maxDischargeDepth := 6) [go_sem, *]
        clear hK K
        (try simp only [Act.put, List.setIfInBounds_toArray, List.set_cons_zero, List.set_cons_succ])
        refine wpAnyH_take (i := 13) (v := ?_) (by rw [List.getElem?_toArray]; rfl) (by kernel_rfl) (by kernel_rfl) (by kernel_rfl) (by intro _ _ _ h; exact h) (Or.inl ⟨by rfl, ?_⟩) (by assumption) ?_
        rotate_left
        · (intro w hSw; (try dsimp only at hSw); go_simp; all_goals with_reducible rfl)
        (try simp only [Act.put, List.setIfInBounds_toArray, List.set_cons_zero, List.set_cons_succ])
        refine wpAnyH_done (by kernel_rfl) ?_ _
        go_wp2_with fail
        go_meet
        case rel => exact ⟨_, rfl, rfl, N.setI U V, hj, P.putI (by omega) (by omega) U V, Below.setI B (by omega) U V⟩
    · go_simp
      (have N := Bx.new v 0 0 27); (have hj : j + 1 < v.heap.size := p0); clear c0 c1 d0 d1 d2 d3 d4 e0 e1 e2 e3 e4 x0 x1 x2 x3 x4 p0 p1 p2 p3 p4 p5 q1 q2 q3 q4 q5; (try clear n0 n1 n2 n3 n4); (replace P := P.alloc (.cells #[.int .i64 0, .int .i64 0] 27)); (replace B := B.alloc B.size (.cells #[.int .i64 0, .int .i64 0] 27)); (generalize v.alloc (.cells #[.int .i64 0, .int .i64 0] 27) = v2 at *); obtain ⟨c0, c1, ⟨d0, d1, d2, d3, d4⟩, ⟨e0, e1, e2, e3, e4⟩, ⟨x0, x1, x2, x3, x4⟩, ⟨p0, p1, p2, p3, p4, p5, q1, q2, q3, q4, q5⟩⟩ := id P; (try (obtain ⟨n0, n1, n2, n3, n4⟩ := id N))
      refine hK.out _ _ ?_ (fun hHeld => ?_)
      · simp (maxDischargeDepth := 6) [go_sem, *]
      clear hK K
      (try simp only [Act.put, List.setIfInBounds_toArray, List.set_cons_zero, List.set_cons_succ])
      refine wpAnyH_ready (rs := [3]) (by kernel_rfl) (by simp) ?_
      refine (AllReadyH.cons (by rw [List.getElem?_toArray]; rfl) (fun K hK => ?_) AllReadyH.nil)
      go_simp
      refine (knownAt_any _ _ _ _).mono ?_; rintro e v ⟨rfl, hb⟩; clear c0 c1 d0 d1 d2 d3 d4 e0 e1 e2 e3 e4 x0 x1 x2 x3 x4 p0 p1 p2 p3 p4 p5 q1 q2 q3 q4 q5; (try clear n0 n1 n2 n3 n4); (replace P := P.below hb); (try (replace N := N.below hb)); (replace B := B.trans (hb.mono B.size)); clear hb; obtain ⟨c0, c1, ⟨d0, d1, d2, d3, d4⟩, ⟨e0, e1, e2, e3, e4⟩, ⟨x0, x1, x2, x3, x4⟩, ⟨p0, p1, p2, p3, p4, p5, q1, q2, q3, q4, q5⟩⟩ := id P; (try (obtain ⟨n0, n1, n2, n3, n4⟩ := id N))
      (try go_wp2_with fail)
      refine hK.out _ _ ?_ (fun hHeld => ?_)
      · simp (maxDischargeDepth := 6) [go_sem, *]
      clear hK K
      (try simp only [Act.put, List.setIfInBounds_toArray, List.set_cons_zero, List.set_cons_succ])
      refine wpAnyH_ready (rs := [7]) (by kernel_rfl) (by simp) ?_
      refine (AllReadyH.cons (by rw [List.getElem?_toArray]; rfl) (fun K hK => ?_) AllReadyH.nil)
      go_simp
      refine (CC _).mono ?_; rintro e v ⟨rfl, hb⟩; clear c0 c1 d0 d1 d2 d3 d4 e0 e1 e2 e3 e4 x0 x1 x2 x3 x4 p0 p1 p2 p3 p4 p5 q1 q2 q3 q4 q5; (try clear n0 n1 n2 n3 n4); (replace P := P.below hb); (try (replace N := N.below hb)); (replace B := B.trans (hb.mono B.size)); clear hb; obtain ⟨c0, c1, ⟨d0, d1, d2, d3, d4⟩, ⟨e0, e1, e2, e3, e4⟩, ⟨x0, x1, x2, x3, x4⟩, ⟨p0, p1, p2, p3, p4, p5, q1, q2, q3, q4, q5⟩⟩ := id P; (try (obtain ⟨n0, n1, n2, n3, n4⟩ := id N))
      (try go_wp2_with fail)
      refine hK.out _ _ ?_ (fun hHeld => ?_)
      · simp (maxDischargeDepth := 6) [go_sem, *]
      clear hK K
      (try simp only [Act.put, List.setIfInBounds_toArray, List.set_cons_zero, List.set_cons_succ])
      refine wpAnyH_take (i := 8) (v := ?_) (by rw [List.getElem?_toArray]; rfl) (by kernel_rfl) (by kernel_rfl) (by kernel_rfl) (by intro _ _ _ h; exact h) (Or.inl ⟨by rfl, ?_⟩) (by assumption) ?_
      rotate_left
      · (intro w hSw; (try dsimp only at hSw); go_simp; all_goals with_reducible rfl)
      (try simp only [Act.put, List.setIfInBounds_toArray, List.set_cons_zero, List.set_cons_succ])
      refine wpAnyH_take (i := 9) (v := ?_) (by rw [List.getElem?_toArray]; rfl) (by kernel_rfl) (by kernel_rfl) (by kernel_rfl) (by intro _ _ _ h; exact h) (Or.inl ⟨by rfl, ?_⟩) (by assumption) ?_
      rotate_left
      · (intro w hSw; (try dsimp only at hSw); go_simp; all_goals with_reducible rfl)
      (try simp only [Act.put, List.setIfInBounds_toArray, List.set_cons_zero, List.set_cons_succ])
      refine wpAnyH_take (i := 10) (v := ?_) (by rw [List.getElem?_toArray]; rfl) (by kernel_rfl) (by kernel_rfl) (by kernel_rfl) (by intro _ _ _ h; exact h) (Or.inl ⟨by rfl, ?_⟩) (by assumption) ?_
      rotate_left
      · (intro w hSw; (try dsimp only at hSw); go_simp; all_goals with_reducible rfl)
      (try simp only [Act.put, List.setIfInBounds_toArray, List.set_cons_zero, List.set_cons_succ])
      refine wpAnyH_ready (rs := [12]) (by kernel_rfl) (by simp) ?_
      refine (AllReadyH.cons (by rw [List.getElem?_toArray]; rfl) (fun K hK => ?_) AllReadyH.nil)
      go_simp
      refine hK.out _ _ ?_ (fun hHeld => ?_)
      · simp (maxDischargeDepth := 6) [go_sem, *]
      clear hK K
      (try simp only [Act.put, List.setIfInBounds_toArray, List.set_cons_zero, List.set_cons_succ])
      refine wpAnyH_take (i := 13) (v := ?_) (by rw [List.getElem?_toArray]; rfl) (by kernel_rfl) (by kernel_rfl) (by kernel_rfl) (by intro _ _ _ h; exact h) (Or.inl ⟨by rfl, ?_⟩) (by assumption) ?_
      rotate_left
      · (intro w hSw; (try dsimp only at hSw); go_simp; all_goals with_reducible rfl)
      (try simp only [Act.put, List.setIfInBounds_toArray, List.set_cons_zero, List.set_cons_succ])
      refine wpAnyH_done (by kernel_rfl) ?_ _
      go_wp2_with fail
      go_meet
      case rel => exact ⟨_, rfl, rfl, N.setI U V, hj, P.putI (by omega) (by omega) U V, Below.setI B (by omega) U V⟩
  case rest =>
    obtain ⟨k, rfl, rfl, N, hk, P', B'⟩ := hcut
    clear P B c0 c1 d0 d1 d2 d3 d4 e0 e1 e2 e3 e4 x0 x1 x2 x3 x4 p0 p1 p2 p3 p4 p5 q1 q2 q3 q4 q5
    obtain ⟨c0, c1, ⟨d0, d1, d2, d3, d4⟩, ⟨e0, e1, e2, e3, e4⟩, ⟨x0, x1, x2, x3, x4⟩, ⟨p0, p1, p2, p3, p4, p5, q1, q2, q3, q4, q5⟩⟩ := P'
    obtain ⟨n0, n1, n2, n3, n4⟩ := N
    go_wp2
    exact bodyPost_ret (v := .tuple #[.agg #[.int .i64 U, .int .i64 V], .int .i64 0]) (by simp (maxDischargeDepth := 6) [results, Try.results41, go_sem, *]) rfl ⟨rfl, by repeat (first | exact B' | refine Below.drew ?_ | refine Below.alloc ?_ (by first | (simp; done) | (simp; omega) | omega) _ | refine Below.setCell ?_ (by first | (simp; done) | (simp; omega) | omega) _)⟩
set_option maxHeartbeats 1000000 in
theorem carried_any (n d fr lo hi s g a : Int) (w : World) :
    Calls Try.prog 41 #[.agg #[.iface 29 (.agg #[.int .i64 fr, .int .i64 lo, .int .i64 hi, .int .i64 s, .int .i64 g]), .int .i64 a], .agg #[.int .i64 n, .int .i64 d]] w fun e w' => e = .returned (.tuple #[.agg #[.int .i64 (ctL n d fr lo hi s g a), .int .i64 (ctH n d fr lo hi s g a)], .int .i64 (ctC n d fr lo hi s g a)]) ∧ Below w.heap.size w w' := by
  rcases ct_cases n d fr lo hi s g a with ⟨h, e1, e2, e3⟩ | ⟨h, h1, _, e1, e2, e3⟩ | ⟨h, h1, h4, e1, e2, e3⟩ | ⟨h, h1, h4, e1, e2, e3⟩
  all_goals rw [e1, e2, e3]
  · exact carried_over n d fr lo hi s g a w h
  · exact carried_bad n d fr lo hi s g a w h h1
  · exact carried_late n d fr lo hi s g a w h h1 h4
  · exact carried_well n d fr lo hi s g a w h h1 h4
set_option maxHeartbeats 2000000 in
theorem implCarryTrip_any (n d fr lo hi s g a : Int) (w : World) :
    Calls Try.prog 14 #[.agg #[.int .i64 n, .int .i64 d], .agg #[.int .i64 fr, .int .i64 lo, .int .i64 hi, .int .i64 s, .int .i64 g], .int .i64 a] w fun e w' => e = .returned (.tuple #[.agg #[.int .i64 (ctL n d fr lo hi s g a), .int .i64 (ctH n d fr lo hi s g a)], .int .i64 (ctC n d fr lo hi s g a)]) ∧ Below w.heap.size w w' := by
  have CR := fun w' => carried_any n d fr lo hi s g a w'
  generalize ctL n d fr lo hi s g a = X at *
  generalize ctH n d fr lo hi s g a = Y at *
  generalize ctC n d fr lo hi s g a = Z at *
  go_enter Try.func14, Try.ntmps14
  go_wp2_with (go_at_call 41; refine (CR _).mono ?_; rintro e w' ⟨rfl, hb⟩; obtain ⟨hc, hf⟩ := bcell hb; (first | have hB := Below.trans (Below.trans hB (by repeat (first | exact Below.refl _ _ | refine Below.drew ?_ | refine Below.alloc ?_ (by first | (simp; done) | (simp; omega) | omega) _ | refine Below.setCell ?_ (by first | (simp; done) | (simp; omega) | omega) _ | refine Below.trans ?_ (Below.mono (by assumption) (by first | (simp; done) | (simp; omega) | omega))))) (Below.mono hb (by first | (simp; done) | (simp; omega) | omega)) | have hB := hb); obtain ⟨hC, hF⟩ := bcell hB; have hz := hb.size; (try simp at hz); (try (have hz0 : w.heap.size < w'.heap.size := by omega)); (try (have hz1 : w.heap.size + 1 < w'.heap.size := by omega)); (try (have hz2 : w.heap.size + 1 + 1 < w'.heap.size := by omega)); (try (have hz3 : w.heap.size + 1 + 1 + 1 < w'.heap.size := by omega)))
  exact bodyPost_ret (v := .tuple #[.agg #[.int .i64 X, .int .i64 Y], .int .i64 Z]) (by simp (maxDischargeDepth := 6) [results, Try.results14, go_sem, *]) rfl ⟨rfl, by repeat (first | exact Below.refl _ _ | refine Below.drew ?_ | refine Below.alloc ?_ (by first | (simp; done) | (simp; omega) | omega) _ | refine Below.setCell ?_ (by first | (simp; done) | (simp; omega) | omega) _ | refine Below.trans ?_ (Below.mono (by assumption) (by first | (simp; done) | (simp; omega) | omega)))⟩
end Go.Proofs.Ytnkgdohccdcipaa
