/- The contract of spec.Unpack: the fields. -/
import Derived.Test.YtbflhhifkhoapaaH5
import Derived.Deep.RegionHeld3
import Derived.Deep.DeepCutAuto
import Derived.WalkKit
import Derived.WalkSpells
import Derived.WalkLawsBesides
import Derived.Deep.RegionHeld
namespace Go.Proofs.Ytbflhhifkhoapaa
open Go.RowKit
set_option linter.unusedVariables false
theorem infoInt : (Try.prog.info? 3).map (fun i => (i.zero, i.size, i.bytes)) = some (some (.int .i64 0), 1, 8) := by kernel_rfl
def vls (f : Nat → Int) (m j : Nat) : List Value := (List.range j).map fun i => Value.int .i64 (val f m i)
theorem vls_len (f : Nat → Int) (m j : Nat) : (vls f m j).length = j := by simp [vls]
theorem vls_add (f : Nat → Int) (m j : Nat) : vls f m (j + 1) = vls f m j ++ [.int .i64 (val f m j)] := by simp [vls, List.range_succ]
theorem int_at (w : World) (z : Int) (T : TypeId) (j : Nat) (u : Value) (h : [Value.int .i64 z][j]? = some u) : (w.alloc (.cells #[.int .i64 z] T)).cell? ((⟨w.heap.size, 0, none⟩ : Addr).add j) = some u := by
  match j, h with
  | 0, h => simp at h; subst h; simp [Addr.add]
theorem own_val {w : World} {base : Nat} {T : TypeId} {v : Value} {f : Nat → Int} {m n : Nat} (h : w.ownsRow base T 1 v n (vls f m n)) (hn : 1 ≤ n) : ∃ g c, v = .slice (some ⟨g, 0, none⟩) n c ∧ base ≤ g ∧ ∀ j, j < n → w.cell? ⟨g, j, none⟩ = some (.int .i64 (val f m j)) := by
  rcases h.2 with ⟨_, h0⟩ | ⟨g, cap, cur, rfl, hb, _⟩
  · omega
  · refine ⟨g, cap, rfl, hb, fun j hj => ?_⟩
    have := h.cells (g := g) rfl j (.int .i64 (val f m j)) (by simp [vls, hj])
    have e : (⟨g, 0, none⟩ : Addr).add j = ⟨g, j, none⟩ := by
      unfold Addr.add
      split
      · next q => subst q; rfl
      · simp
    rw [e] at this
    exact this
set_option maxRecDepth 100000 in
set_option maxHeartbeats 8000000 in
theorem specUnpack_k1 (b off n c : Nat) (f : Nat → Int) (w : World) (hn : 2 ≤ n) (hm20 : n ≤ 1048576) (hc : n ≤ c) (hcm : c ≤ maxLen) (hf : Byts w b off n f) (hr : ∀ i, i < n → 0 ≤ f i ∧ f i ≤ 255) (h : chk f (n - 1) = f (n - 1)) (hk : f 0 = 1) :
    Calls Try.prog 14 #[.slice (some ⟨b, off, none⟩) n c] w fun e w' => e = .returned (uv (unp f n)) ∧ Below w.heap.size w w' := by
  have HUN : Hid (unp f n = unp1 f (n - 1)) := by rw [Hid, unp, if_neg (by omega), if_neg (by rw [h]; simp), if_neg (by omega)]; simp [hk]
  obtain ⟨i0, hi0, hz0, hz1, hz2⟩ := info_parts infoInt
  have z1 : (w.alloc (.cells #[.int .i64 0, .int .i64 0, .int .i64 0, .int .i64 0, .int .i64 0, .int .i64 0, .int .i64 0, .string ⟨#[]⟩] 27)).heap.size = w.heap.size + 1 := by simp
  have R := (Box8.new w 0 0 0 0 0 0 0 ⟨#[]⟩ 27).alloc (.cells #[.int .i64 0, .int .i64 0, .int .i64 0, .int .i64 0, .int .i64 0, .int .i64 0, .int .i64 0, .string ⟨#[]⟩] 27)
  have T := (Thaw8.new w 0 0 0 0 0 0 0 ⟨#[]⟩ 27).alloc (by simp) (.cells #[.int .i64 0, .int .i64 0, .int .i64 0, .int .i64 0, .int .i64 0, .int .i64 0, .int .i64 0, .string ⟨#[]⟩] 27)
  have N := Box8.new (w.alloc (.cells #[.int .i64 0, .int .i64 0, .int .i64 0, .int .i64 0, .int .i64 0, .int .i64 0, .int .i64 0, .string ⟨#[]⟩] 27)) 0 0 0 0 0 0 0 ⟨#[]⟩ 27
  rw [z1] at N
  have B := ((Below.refl w.heap.size w).alloc (Nat.le_refl _) (.cells #[.int .i64 0, .int .i64 0, .int .i64 0, .int .i64 0, .int .i64 0, .int .i64 0, .int .i64 0, .string ⟨#[]⟩] 27)).alloc (by simp) (.cells #[.int .i64 0, .int .i64 0, .int .i64 0, .int .i64 0, .int .i64 0, .int .i64 0, .int .i64 0, .string ⟨#[]⟩] 27)
  clear z1
  have HF0 : Hid (Byts w b off n f) := hf
  have D0 := hf.below B hf.1
  have HD : Hid (Byts ((w.alloc (.cells #[.int .i64 0, .int .i64 0, .int .i64 0, .int .i64 0, .int .i64 0, .int .i64 0, .int .i64 0, .string ⟨#[]⟩] 27)).alloc (.cells #[.int .i64 0, .int .i64 0, .int .i64 0, .int .i64 0, .int .i64 0, .int .i64 0, .int .i64 0, .string ⟨#[]⟩] 27)) b off n f) := D0
  have bw : b < w.heap.size := hf.1
  have CC := fun (w' : World) (hs : SrcB w' (some ⟨b, off, none⟩) (n - 1) f) => specCheck8_any (some ⟨b, off, none⟩) (n - 1) c f w' (by unfold maxLen at hcm ⊢; omega) hs (fun i hi => hr i (by omega))
  have hlast := hr (n - 1) (by omega)
  have l0 := hlast.1
  have l1 := hlast.2
  have hfirst := hr 0 (by omega)
  have g0 := hfirst.1
  have g1 := hfirst.2
  unfold maxLen at hcm
  have hi2 : ¬ (n : Int) < 2 := by omega
  have hwn : IntKind.i64.wrap ((n : Int) - 1) = (n : Int) - 1 := Go.IntWalk.i64_in _ ⟨by omega, by omega⟩
  have hsb : 0 ≤ (n : Int) - 1 ∧ (n : Int) - 1 ≤ (c : Int) := ⟨by omega, by omega⟩
  have hn1 : (1 : Int) ≤ (n : Int) := by omega
  have hib : 0 ≤ (n : Int) - 1 ∧ (n : Int) - 1 < (n : Int) := ⟨by omega, by omega⟩
  have htn : ((n : Int) - 1).toNat = n - 1 := by omega
  have cl : ((w.alloc (.cells #[.int .i64 0, .int .i64 0, .int .i64 0, .int .i64 0, .int .i64 0, .int .i64 0, .int .i64 0, .string ⟨#[]⟩] 27)).alloc (.cells #[.int .i64 0, .int .i64 0, .int .i64 0, .int .i64 0, .int .i64 0, .int .i64 0, .int .i64 0, .string ⟨#[]⟩] 27)).cell? ⟨b, off + (n - 1), none⟩ = some (.int .u8 (f (n - 1))) := D0.2 (n - 1) (by omega)
  clear D0 hf hlast hfirst
  go_enter Try.func14, Try.ntmps14
  go_wp2_with fail
  generalize (w.alloc (.cells #[.int .i64 0, .int .i64 0, .int .i64 0, .int .i64 0, .int .i64 0, .int .i64 0, .int .i64 0, .string ⟨#[]⟩] 27)).alloc (.cells #[.int .i64 0, .int .i64 0, .int .i64 0, .int .i64 0, .int .i64 0, .int .i64 0, .int .i64 0, .string ⟨#[]⟩] 27) = v at *
  have HSD : Hid (SrcB v.drew (some ⟨b, off, none⟩) (n - 1) f) := (show SrcB v (some ⟨b, off, none⟩) (n - 1) f from .inr ⟨b, off, rfl, HD.out.1, fun i hi => HD.out.2 i (by omega)⟩)
  have hwl : IntKind.i64.wrap (f (n - 1)) = f (n - 1) := Go.IntWalk.i64_in _ ⟨by omega, by omega⟩
  have HRN : Hid (∀ i, i < n - 1 → 0 ≤ f i ∧ f i ≤ 255) := fun i hi => hr i (by omega)
  have hne : (chk f (n - 1) != f (n - 1)) = false := by simp [h]
  have cf : v.cell? ⟨b, off, none⟩ = some (.int .u8 1) := by rw [← hk]; exact HD.out.2 0 (by omega)
  have hn2 : 0 < n - 1 := by omega
  have hdk : decide ((1 : Int) ≤ 1 ∧ (1 : Int) ≤ 3) = true := by decide
  refine wp_region_held_drew (S := (fun w' => w'.cell? ⟨b, off + (n - 1), none⟩ = some (.int .u8 (f (n - 1))))) (by kernel_rfl) ?_ (fun hHeld => ?_)
  · first | exact cl | (simp (maxDischargeDepth := 6) [go_sem, *]; done)
  refine wpAnyH_take (i := 0) (v := ?_) (by rw [List.getElem?_toArray]; rfl) (by kernel_rfl) (by kernel_rfl) (by kernel_rfl) (by intro _ _ _ h; exact h) (Or.inl ⟨by rfl, ?_⟩) (by assumption) ?_
  rotate_left
  · (intro w hSw; (try dsimp only at hSw); go_simp; all_goals with_reducible rfl)
  (try simp only [Act.put, List.setIfInBounds_toArray, List.set_cons_zero, List.set_cons_succ])
  refine wpAnyH_take (i := 2) (v := ?_) (by rw [List.getElem?_toArray]; rfl) (by kernel_rfl) (by kernel_rfl) (by kernel_rfl) (by intro _ _ _ h; exact h) (Or.inl ⟨by rfl, ?_⟩) (by assumption) ?_
  rotate_left
  · (intro w hSw; (try dsimp only at hSw); go_simp; all_goals with_reducible rfl)
  (try simp only [Act.put, List.setIfInBounds_toArray, List.set_cons_zero, List.set_cons_succ])
  refine wpAnyH_take (i := 3) (v := ?_) (by rw [List.getElem?_toArray]; rfl) (by kernel_rfl) (by kernel_rfl) (by kernel_rfl) (by intro _ _ _ h; exact h) (Or.inl ⟨by rfl, ?_⟩) (by assumption) ?_
  rotate_left
  · (intro w hSw; (try dsimp only at hSw); go_simp; all_goals with_reducible rfl)
  (try simp only [Act.put, List.setIfInBounds_toArray, List.set_cons_zero, List.set_cons_succ])
  refine wpAnyH_take (i := 4) (v := ?_) (by rw [List.getElem?_toArray]; rfl) (by kernel_rfl) (by kernel_rfl) (by kernel_rfl) (by intro _ _ _ h; exact h) (Or.inl ⟨by rfl, ?_⟩) (by assumption) ?_
  rotate_left
  · (intro w hSw; (try dsimp only at hSw); go_simp; all_goals with_reducible rfl)
  (try simp only [Act.put, List.setIfInBounds_toArray, List.set_cons_zero, List.set_cons_succ])
  refine wpAnyH_take (i := 5) (v := ?_) (by rw [List.getElem?_toArray]; rfl) (by kernel_rfl) (by kernel_rfl) (by kernel_rfl) (by intro _ _ _ h; exact h) (Or.inl ⟨by rfl, ?_⟩) (by assumption) ?_
  rotate_left
  · (intro w hSw; (try dsimp only at hSw); go_simp; all_goals with_reducible rfl)
  (try simp only [Act.put, List.setIfInBounds_toArray, List.set_cons_zero, List.set_cons_succ])
  refine wpAnyH_take (i := 6) (v := ?_) (by rw [List.getElem?_toArray]; rfl) (by kernel_rfl) (by kernel_rfl) (by kernel_rfl) (by intro _ _ _ h; exact h) (Or.inl ⟨by rfl, ?_⟩) (by assumption) ?_
  rotate_left
  · (intro w hSw; (try dsimp only at hSw); go_simp; all_goals with_reducible rfl)
  (try simp only [Act.put, List.setIfInBounds_toArray, List.set_cons_zero, List.set_cons_succ])
  refine wpAnyH_take (i := 7) (v := ?_) (by rw [List.getElem?_toArray]; rfl) (by kernel_rfl) (by kernel_rfl) (by kernel_rfl) (by intro _ _ _ h; exact h) (Or.inl ⟨by rfl, ?_⟩) (by assumption) ?_
  rotate_left
  · (intro w hSw; (try dsimp only at hSw); go_simp; all_goals with_reducible rfl)
  (try simp only [Act.put, List.setIfInBounds_toArray, List.set_cons_zero, List.set_cons_succ])
  refine wpAnyH_take (i := 8) (v := ?_) (by rw [List.getElem?_toArray]; rfl) (by kernel_rfl) (by kernel_rfl) (by kernel_rfl) (by intro _ _ _ h; exact h) (Or.inl ⟨by rfl, ?_⟩) (by assumption) ?_
  rotate_left
  · (intro w hSw; (try dsimp only at hSw); go_simp; all_goals with_reducible rfl)
  (try simp only [Act.put, List.setIfInBounds_toArray, List.set_cons_zero, List.set_cons_succ])
  refine wpAnyH_ready (rs := [1]) (by kernel_rfl) (by simp) ?_
  refine AllReadyH.cons (by rw [List.getElem?_toArray]; rfl) (fun K hK => ?_) AllReadyH.nil
  go_simp
  refine (CC _ HSD.out).mono ?_; rintro e w' ⟨rfl, rfl⟩
  (try go_wp2_with fail)
  refine hK.out _ _ ?_ (fun hHeld => ?_)
  · first | exact cl | (simp (maxDischargeDepth := 6) [go_sem, *]; done)
  clear hK K
  (try simp only [Act.put, List.setIfInBounds_toArray, List.set_cons_zero, List.set_cons_succ])
  refine wpAnyH_take (i := 9) (v := ?_) (by rw [List.getElem?_toArray]; rfl) (by kernel_rfl) (by kernel_rfl) (by kernel_rfl) (by intro _ _ _ h; exact h) (Or.inl ⟨by rfl, ?_⟩) (by assumption) ?_
  rotate_left
  · (intro w hSw; (try dsimp only at hSw); go_simp; all_goals with_reducible rfl)
  (try simp only [Act.put, List.setIfInBounds_toArray, List.set_cons_zero, List.set_cons_succ])
  refine wpAnyH_done (by kernel_rfl) ?_ _
  clear hr h hk CC HSD hHeld g0 g1
  go_wp2_with fail
  refine (l1In_any _ _ _ _).mono ?_
  rintro e w' ⟨rfl, rfl⟩
  rw [hdk]
  go_wp2_with fail
  have hb2 : w.heap.size + 2 ≤ v.heap.size := N.1
  have O0 : ((v.alloc (.cells #[.int .i64 0, .int .i64 3, .int .i64 5, .int .i64 3] 3)).alloc (.cells #[] 3)).ownsRow (w.heap.size + 2) 3 1 (.slice (some ⟨v.heap.size + 1, 0, none⟩) 0 0) 0 (vls f (n - 1) 0) := by
    have q := World.ownsRow_made (e := 3) (size := 1) (base := w.heap.size + 2) (v.alloc (.cells #[.int .i64 0, .int .i64 3, .int .i64 5, .int .i64 3] 3)) #[] 0 (by simp; omega) (by simp [maxLen]) (by simp)
    rw [World.size_alloc] at q
    exact q
  replace O0 := World.ownsRow.drew O0
  have R0 := Box8.drew ((R.alloc (.cells #[.int .i64 0, .int .i64 3, .int .i64 5, .int .i64 3] 3)).alloc (.cells #[] 3))
  have N0 := Box8.drew ((N.alloc (.cells #[.int .i64 0, .int .i64 3, .int .i64 5, .int .i64 3] 3)).alloc (.cells #[] 3))
  have T0 := Thaw8.drew ((T.alloc R.1 (.cells #[.int .i64 0, .int .i64 3, .int .i64 5, .int .i64 3] 3)).alloc (R.alloc (.cells #[.int .i64 0, .int .i64 3, .int .i64 5, .int .i64 3] 3)).1 (.cells #[] 3))
  have BA := (Below.refl v.heap.size v).alloc (Nat.le_refl _) (.cells #[.int .i64 0, .int .i64 3, .int .i64 5, .int .i64 3] 3)
  have BA2 := BA.alloc BA.size (.cells #[] 3)
  have D0 := Byts.drew (HD.out.below BA2 HD.out.1)
  have B0 := Below.drew (B.trans (BA2.mono B.size))
  clear R N T B BA BA2 cl cf HD HF0
  generalize ((v.alloc (.cells #[.int .i64 0, .int .i64 3, .int .i64 5, .int .i64 3] 3)).alloc (.cells #[] 3)).drew = v5 at *
  have HO0 : Hid (v5.ownsRow (w.heap.size + 2) 3 1 (.slice (some ⟨v.heap.size + 1, 0, none⟩) 0 0) 0 (vls f (n - 1) 0)) := O0
  clear O0
  go_loopw [8, 9, 10] (fun nv av iv wr => ∃ j : Nat, j ≤ 3 ∧ iv = .int .i64 j ∧ av = .int .i64 (ats f (n - 1) j) ∧ okA f (n - 1) j = true ∧ wr.ownsRow (w.heap.size + 2) 3 1 nv j (vls f (n - 1) j) ∧ Box8 wr w.heap.size 0 0 0 0 0 0 0 ⟨#[]⟩ ∧ Thaw8 wr w.heap.size ∧ Box8 wr (w.heap.size + 1) 0 0 0 0 0 0 0 ⟨#[]⟩ ∧ Byts wr b off n f ∧ Below w.heap.size w wr) (fun _ _ iv _ => 3 - (intOf iv).toNat)
  case atStart => exact ⟨0, Nat.zero_le _, rfl, rfl, rfl, HO0.out, R0, T0, N0, D0, B0⟩
  case round =>
    obtain ⟨j, hj, rfl, rfl, hok, O, R, T, N, D, B⟩ := hrel
    clear HO0 R0 T0 N0 D0 B0
    have HOK : Hid (okA f (n - 1) j = true) := hok
    have HO : Hid (wr.ownsRow (w.heap.size + 2) 3 1 u8 j (vls f (n - 1) j)) := O
    have HD : Hid (Byts wr b off n f) := D
    clear hok O D
    by_cases hlt : j < 3
    · have hli : (j : Int) < 3 := by omega
      have CG := specGetNum_any (some ⟨b, off, none⟩) (n - 1) c (ats f (n - 1) j) f wr (by unfold maxLen; omega) (.inr ⟨b, off, rfl, HD.out.1, fun i hi => HD.out.2 i (by omega)⟩) HRN.out
      have EV : val f (n - 1) j = (getI f (n - 1) (ats f (n - 1) j)).1 := rfl
      have EA : ats f (n - 1) (j + 1) = (getI f (n - 1) (ats f (n - 1) j)).2.1 := rfl
      rw [← EV, ← EA] at CG
      have HVA := vls_add f (n - 1) j
      cases hfl : fldC f (n - 1) (ats f (n - 1) j)
      · have HU : Hid (unp f n = (4, zT)) := by rw [Hid, HUN.out, unp1, okA_no hfl 3 hlt]; rfl
        have hcase : (getI f (n - 1) (ats f (n - 1) j)).2.2 = false ∨ ((getI f (n - 1) (ats f (n - 1) j)).2.2 = true ∧ 4000000000000 < val f (n - 1) j) := by
          rw [EV]
          simp only [fldC] at hfl
          cases q : (getI f (n - 1) (ats f (n - 1) j)).2.2
          · exact .inl rfl
          · rw [q] at hfl; simp at hfl; exact .inr ⟨rfl, by omega⟩
        clear EV EA HVA hfl HUN HOK HO
        generalize (getI f (n - 1) (ats f (n - 1) j)).2.2 = ok at *
        generalize val f (n - 1) j = x at *
        generalize ats f (n - 1) (j + 1) = nx at *
        generalize ats f (n - 1) j = at0 at *
        rcases hcase with rfl | ⟨rfl, hgt⟩
        all_goals
          obtain ⟨a0, a1, a2, a3, a4, a5, a6, a7, a8⟩ := id R; obtain ⟨b0, b1, b2, b3, b4, b5, b6, b7, b8⟩ := id N; obtain ⟨t0, t1, t2, t3, t4, t5, t6, t7⟩ := id T
          go_wp2_with fail
          refine CG.mono ?_
          rintro e w' ⟨rfl, rfl⟩
          clear CG
          go_wp2_with fail
          have BF : Below w.heap.size w ((((((((wr.setCell ⟨w.heap.size, 0, none⟩ (.int .i64 0)).setCell ⟨w.heap.size, 1, none⟩ (.int .i64 0)).setCell ⟨w.heap.size, 2, none⟩ (.int .i64 0)).setCell ⟨w.heap.size, 3, none⟩ (.int .i64 0)).setCell ⟨w.heap.size, 4, none⟩ (.int .i64 0)).setCell ⟨w.heap.size, 5, none⟩ (.int .i64 0)).setCell ⟨w.heap.size, 6, none⟩ (.int .i64 0)).setCell ⟨w.heap.size, 7, none⟩ (.string ⟨#[]⟩)) := ((((((((B.setCell (Nat.le_refl _) _).setCell (Nat.le_refl _) _).setCell (Nat.le_refl _) _).setCell (Nat.le_refl _) _).setCell (Nat.le_refl _) _).setCell (Nat.le_refl _) _).setCell (Nat.le_refl _) _).setCell (Nat.le_refl _) _)
          have RF := ((((((((R.set0 0).set1 0).set2 0).set3 0).set4 0).set5 0).set6 0).set7 ⟨#[]⟩)
          clear a0 a1 a2 a3 a4 a5 a6 a7 a8 b0 b1 b2 b3 b4 b5 b6 b7 b8 t0 t1 t2 t3 t4 t5 t6 t7 R N T
          generalize ((((((((wr.setCell ⟨w.heap.size, 0, none⟩ (.int .i64 0)).setCell ⟨w.heap.size, 1, none⟩ (.int .i64 0)).setCell ⟨w.heap.size, 2, none⟩ (.int .i64 0)).setCell ⟨w.heap.size, 3, none⟩ (.int .i64 0)).setCell ⟨w.heap.size, 4, none⟩ (.int .i64 0)).setCell ⟨w.heap.size, 5, none⟩ (.int .i64 0)).setCell ⟨w.heap.size, 6, none⟩ (.int .i64 0)).setCell ⟨w.heap.size, 7, none⟩ (.string ⟨#[]⟩)) = vf at *
          obtain ⟨a0, a1, a2, a3, a4, a5, a6, a7, a8⟩ := RF
          refine bodyPost_ret (v := .tuple #[.agg #[.int .i64 0, .int .i64 0, .int .i64 0, .int .i64 0, .int .i64 0, .int .i64 0, .int .i64 0, .string ⟨#[]⟩], .int .i64 4]) (by simp (maxDischargeDepth := 6) [results, Try.results14, go_sem, a1, a2, a3, a4, a5, a6, a7, a8]) rfl ?_
          exact ⟨by rw [HU.out]; rfl, BF⟩
      · have hfc : (getI f (n - 1) (ats f (n - 1) j)).2.2 = true ∧ val f (n - 1) j ≤ 4000000000000 := by
          rw [EV]; simp only [fldC, Bool.and_eq_true, decide_eq_true_eq] at hfl; exact hfl
        have HOK2 : Hid (okA f (n - 1) (j + 1) = true) := by rw [Hid, okA, HOK.out, hfl]; rfl
        rw [hfc.1] at CG
        have hle := hfc.2
        have hO : wr.ownsRow (w.heap.size + 2) 3 1 u8 j (vls f (n - 1) j) := HO.out
        have hwz : w.heap.size + 2 ≤ wr.heap.size := N.1
        clear EV EA hfl HUN HOK hfc
        generalize hx : val f (n - 1) j = x at *
        generalize hnx : ats f (n - 1) (j + 1) = nx at *
        have HNX : Hid (ats f (n - 1) (j + 1) = nx) := hnx
        clear hx hnx
        go_wp2_with fail
        refine CG.mono ?_
        rintro e w' ⟨rfl, rfl⟩
        clear CG
        have A := (Below.refl wr.heap.size wr).alloc (Nat.le_refl _) (.cells #[.int .i64 x] 3)
        go_wp2_with (at_builtin; refine wpList_append_own _ rfl _ _ 55 rfl (w.heap.size + 2) 3 i0 (.int .i64 0) 1 8 Try.underlying55 hi0 hz0 hz1 hz2 rfl (by decide) _ _ _ rfl (World.ownsRow.alloc hO _) ⟨wr.heap.size, 0, none⟩ 1 1 [.int .i64 x] rfl rfl (fun q u hq => int_at wr _ 3 q u hq) (by intro u hu; simp at hu; subst hu; rfl) (by unfold maxLen; omega) (by omega) (by simp; omega) ?_; intro v' wn hown' hgrow _)
        have G := grownB_below (World.ownsRow.alloc hO _) hgrow (by simp; omega)
        replace B := (B.trans (A.mono B.size)).trans (G.mono (by omega))
        replace R := (R.alloc (.cells #[.int .i64 x] 3)).belowB G (by omega)
        replace N := (N.alloc (.cells #[.int .i64 x] 3)).belowB G (by omega)
        replace T := (T.alloc (by omega) (.cells #[.int .i64 x] 3)).belowB G (by omega)
        have HD2 : Hid (Byts wn b off n f) := (HD.out.below A HD.out.1).below G (by omega)
        have HO2 : Hid (wn.ownsRow (w.heap.size + 2) 3 1 v' (j + 1) (vls f (n - 1) (j + 1))) := by rw [Hid, HVA]; exact hown'
        clear hown' hgrow G A hO HO HD
        go_wp2_with fail
        go_roundw
        case rel => exact ⟨j + 1, by omega, by go_num, by rw [HNX.out], HOK2.out, HO2.out, R, T, N, HD2.out, B⟩
        case measure => simp [intOf]; omega
    · have hj' : j = 3 := by omega
      subst hj'
      obtain ⟨g, cg, rfl, hg, HV⟩ := own_val HO.out (by omega)
      have hgl : g < wr.heap.size := (HO.out.lt g rfl).2
      have HB0 : Hid (∀ i, i < n - 1 → 0 ≤ f i) := fun i hi => (HRN.out i hi).1
      have hats := ats_bd HB0.out HOK.out
      have ha1 := hats.1
      have ha2 := hats.2 (by omega)
      have HUK : Hid (unp f n = unp1 f (n - 1)) := HUN.out
      have c0 := HV 0 (by omega)
      have vb0 := val_bd HB0.out HOK.out (j := 0) (by omega)
      have c1 := HV 1 (by omega)
      have vb1 := val_bd HB0.out HOK.out (j := 1) (by omega)
      have c2 := HV 2 (by omega)
      have vb2 := val_bd HB0.out HOK.out (j := 2) (by omega)
      have HUF : Hid (unp f n = if okA f (n - 1) 3 then _ else (4, zT)) := HUK.out
      rw [HOK.out] at HUF
      clear HUK HUN HV hats HO HB0 HRN HOK
      generalize val f (n - 1) 0 = x0 at *
      generalize val f (n - 1) 1 = x1 at *
      generalize val f (n - 1) 2 = x2 at *
      generalize ats f (n - 1) 3 = at0 at *
      have HUG : Hid (unp f n = fin (n - 1) (1, x0, x1, x2, 0, 0, 0, ⟨#[]⟩) at0) := HUF.out
      clear HUF
      have hcast : ((n - 1 : Nat) : Int) = (n : Int) - 1 := by omega
      by_cases hlong : at0 < ((n - 1 : Nat) : Int)
      · have HU : Hid (unp f n = (6, zT)) := by rw [Hid, HUG.out]; exact fin_long hlong
        have hlong' : at0 < (n : Int) - 1 := by omega
        clear HUG HD
        obtain ⟨a0, a1, a2, a3, a4, a5, a6, a7, a8⟩ := id R; obtain ⟨b0, b1, b2, b3, b4, b5, b6, b7, b8⟩ := id N; obtain ⟨t0, t1, t2, t3, t4, t5, t6, t7⟩ := id T
        go_wp2_with fail
        have BF : Below w.heap.size w ((((((((wr.setCell ⟨w.heap.size, 0, none⟩ (.int .i64 0)).setCell ⟨w.heap.size, 1, none⟩ (.int .i64 0)).setCell ⟨w.heap.size, 2, none⟩ (.int .i64 0)).setCell ⟨w.heap.size, 3, none⟩ (.int .i64 0)).setCell ⟨w.heap.size, 4, none⟩ (.int .i64 0)).setCell ⟨w.heap.size, 5, none⟩ (.int .i64 0)).setCell ⟨w.heap.size, 6, none⟩ (.int .i64 0)).setCell ⟨w.heap.size, 7, none⟩ (.string ⟨#[]⟩)) := ((((((((B.setCell (Nat.le_refl _) _).setCell (Nat.le_refl _) _).setCell (Nat.le_refl _) _).setCell (Nat.le_refl _) _).setCell (Nat.le_refl _) _).setCell (Nat.le_refl _) _).setCell (Nat.le_refl _) _).setCell (Nat.le_refl _) _)
        have RF := ((((((((R.set0 0).set1 0).set2 0).set3 0).set4 0).set5 0).set6 0).set7 ⟨#[]⟩)
        replace BF := BF.alloc BF.size (.cells #[.int .i64 1, .int .i64 x0, .int .i64 x1, .int .i64 x2, .int .i64 0, .int .i64 0, .int .i64 0, .string ⟨#[]⟩] 27)
        replace RF := RF.alloc (.cells #[.int .i64 1, .int .i64 x0, .int .i64 x1, .int .i64 x2, .int .i64 0, .int .i64 0, .int .i64 0, .string ⟨#[]⟩] 27)
        clear a0 a1 a2 a3 a4 a5 a6 a7 a8 b0 b1 b2 b3 b4 b5 b6 b7 b8 t0 t1 t2 t3 t4 t5 t6 t7 R N T
        generalize (((((((((wr.setCell ⟨w.heap.size, 0, none⟩ (.int .i64 0)).setCell ⟨w.heap.size, 1, none⟩ (.int .i64 0)).setCell ⟨w.heap.size, 2, none⟩ (.int .i64 0)).setCell ⟨w.heap.size, 3, none⟩ (.int .i64 0)).setCell ⟨w.heap.size, 4, none⟩ (.int .i64 0)).setCell ⟨w.heap.size, 5, none⟩ (.int .i64 0)).setCell ⟨w.heap.size, 6, none⟩ (.int .i64 0)).setCell ⟨w.heap.size, 7, none⟩ (.string ⟨#[]⟩)).alloc (.cells #[.int .i64 1, .int .i64 x0, .int .i64 x1, .int .i64 x2, .int .i64 0, .int .i64 0, .int .i64 0, .string ⟨#[]⟩] 27)) = vf at *
        obtain ⟨a0, a1, a2, a3, a4, a5, a6, a7, a8⟩ := RF
        refine bodyPost_ret (v := .tuple #[.agg #[.int .i64 0, .int .i64 0, .int .i64 0, .int .i64 0, .int .i64 0, .int .i64 0, .int .i64 0, .string ⟨#[]⟩], .int .i64 6]) (by simp (maxDischargeDepth := 6) [results, Try.results14, go_sem, a1, a2, a3, a4, a5, a6, a7, a8]) rfl ?_
        exact ⟨by rw [HU.out]; rfl, BF⟩
      · have hlong' : ¬ at0 < (n : Int) - 1 := by omega
        have CK := fun w' => specMsgOk_any 1 x0 x1 x2 0 0 0 ⟨#[]⟩ w' (by first | omega | decide)
        cases hmb : msgB 1 x0 x1 x2 0 0 0 ⟨#[]⟩
        all_goals
          rw [hmb] at CK
        · have HU : Hid (unp f n = (5, zT)) := by rw [Hid, HUG.out]; exact fin_bad hlong hmb
          clear HUG HD hmb
          obtain ⟨a0, a1, a2, a3, a4, a5, a6, a7, a8⟩ := id R; obtain ⟨b0, b1, b2, b3, b4, b5, b6, b7, b8⟩ := id N; obtain ⟨t0, t1, t2, t3, t4, t5, t6, t7⟩ := id T
          go_wp2_with fail
          refine (CK _).mono ?_
          rintro e w2 ⟨rfl, hb⟩
          replace R := ((R.alloc (.cells #[.int .i64 1, .int .i64 x0, .int .i64 x1, .int .i64 x2, .int .i64 0, .int .i64 0, .int .i64 0, .string ⟨#[]⟩] 27))).below hb
          replace N := ((N.alloc (.cells #[.int .i64 1, .int .i64 x0, .int .i64 x1, .int .i64 x2, .int .i64 0, .int .i64 0, .int .i64 0, .string ⟨#[]⟩] 27))).below hb
          replace T := ((T.alloc (by omega) (.cells #[.int .i64 1, .int .i64 x0, .int .i64 x1, .int .i64 x2, .int .i64 0, .int .i64 0, .int .i64 0, .string ⟨#[]⟩] 27))).belowB hb (by simp; omega)
          replace B := ((B.alloc B.size (.cells #[.int .i64 1, .int .i64 x0, .int .i64 x1, .int .i64 x2, .int .i64 0, .int .i64 0, .int .i64 0, .string ⟨#[]⟩] 27))).trans (hb.mono (by simp; omega))
          clear a0 a1 a2 a3 a4 a5 a6 a7 a8 b0 b1 b2 b3 b4 b5 b6 b7 b8 t0 t1 t2 t3 t4 t5 t6 t7
          obtain ⟨a0, a1, a2, a3, a4, a5, a6, a7, a8⟩ := id R; obtain ⟨b0, b1, b2, b3, b4, b5, b6, b7, b8⟩ := id N; obtain ⟨t0, t1, t2, t3, t4, t5, t6, t7⟩ := id T
          clear hb CK
          go_wp2_with fail
          have BF : Below w.heap.size w ((((((((w2.setCell ⟨w.heap.size, 0, none⟩ (.int .i64 0)).setCell ⟨w.heap.size, 1, none⟩ (.int .i64 0)).setCell ⟨w.heap.size, 2, none⟩ (.int .i64 0)).setCell ⟨w.heap.size, 3, none⟩ (.int .i64 0)).setCell ⟨w.heap.size, 4, none⟩ (.int .i64 0)).setCell ⟨w.heap.size, 5, none⟩ (.int .i64 0)).setCell ⟨w.heap.size, 6, none⟩ (.int .i64 0)).setCell ⟨w.heap.size, 7, none⟩ (.string ⟨#[]⟩)) := ((((((((B.setCell (Nat.le_refl _) _).setCell (Nat.le_refl _) _).setCell (Nat.le_refl _) _).setCell (Nat.le_refl _) _).setCell (Nat.le_refl _) _).setCell (Nat.le_refl _) _).setCell (Nat.le_refl _) _).setCell (Nat.le_refl _) _)
          have RF := ((((((((R.set0 0).set1 0).set2 0).set3 0).set4 0).set5 0).set6 0).set7 ⟨#[]⟩)
          clear a0 a1 a2 a3 a4 a5 a6 a7 a8 b0 b1 b2 b3 b4 b5 b6 b7 b8 t0 t1 t2 t3 t4 t5 t6 t7 R N T
          generalize ((((((((w2.setCell ⟨w.heap.size, 0, none⟩ (.int .i64 0)).setCell ⟨w.heap.size, 1, none⟩ (.int .i64 0)).setCell ⟨w.heap.size, 2, none⟩ (.int .i64 0)).setCell ⟨w.heap.size, 3, none⟩ (.int .i64 0)).setCell ⟨w.heap.size, 4, none⟩ (.int .i64 0)).setCell ⟨w.heap.size, 5, none⟩ (.int .i64 0)).setCell ⟨w.heap.size, 6, none⟩ (.int .i64 0)).setCell ⟨w.heap.size, 7, none⟩ (.string ⟨#[]⟩)) = vf at *
          obtain ⟨a0, a1, a2, a3, a4, a5, a6, a7, a8⟩ := RF
          refine bodyPost_ret (v := .tuple #[.agg #[.int .i64 0, .int .i64 0, .int .i64 0, .int .i64 0, .int .i64 0, .int .i64 0, .int .i64 0, .string ⟨#[]⟩], .int .i64 5]) (by simp (maxDischargeDepth := 6) [results, Try.results14, go_sem, a1, a2, a3, a4, a5, a6, a7, a8]) rfl ?_
          exact ⟨by rw [HU.out]; rfl, BF⟩
        · have HU : Hid (unp f n = (0, (1, x0, x1, x2, 0, 0, 0, ⟨#[]⟩))) := by rw [Hid, HUG.out]; exact fin_well hlong hmb
          clear HUG HD hmb
          obtain ⟨a0, a1, a2, a3, a4, a5, a6, a7, a8⟩ := id R; obtain ⟨b0, b1, b2, b3, b4, b5, b6, b7, b8⟩ := id N; obtain ⟨t0, t1, t2, t3, t4, t5, t6, t7⟩ := id T
          go_wp2_with fail
          refine (CK _).mono ?_
          rintro e w2 ⟨rfl, hb⟩
          have MX := ((Box8.new wr 1 x0 x1 x2 0 0 0 ⟨#[]⟩ 27)).below hb
          replace R := ((R.alloc (.cells #[.int .i64 1, .int .i64 x0, .int .i64 x1, .int .i64 x2, .int .i64 0, .int .i64 0, .int .i64 0, .string ⟨#[]⟩] 27))).below hb
          replace N := ((N.alloc (.cells #[.int .i64 1, .int .i64 x0, .int .i64 x1, .int .i64 x2, .int .i64 0, .int .i64 0, .int .i64 0, .string ⟨#[]⟩] 27))).below hb
          replace T := ((T.alloc (by omega) (.cells #[.int .i64 1, .int .i64 x0, .int .i64 x1, .int .i64 x2, .int .i64 0, .int .i64 0, .int .i64 0, .string ⟨#[]⟩] 27))).belowB hb (by simp; omega)
          replace B := ((B.alloc B.size (.cells #[.int .i64 1, .int .i64 x0, .int .i64 x1, .int .i64 x2, .int .i64 0, .int .i64 0, .int .i64 0, .string ⟨#[]⟩] 27))).trans (hb.mono (by simp; omega))
          clear a0 a1 a2 a3 a4 a5 a6 a7 a8 b0 b1 b2 b3 b4 b5 b6 b7 b8 t0 t1 t2 t3 t4 t5 t6 t7
          obtain ⟨a0, a1, a2, a3, a4, a5, a6, a7, a8⟩ := id R; obtain ⟨b0, b1, b2, b3, b4, b5, b6, b7, b8⟩ := id N; obtain ⟨t0, t1, t2, t3, t4, t5, t6, t7⟩ := id T
          obtain ⟨m0, m1, m2, m3, m4, m5, m6, m7, m8⟩ := id MX
          clear hb CK
          go_wp2_with fail
          have BF : Below w.heap.size w ((((((((w2.setCell ⟨w.heap.size, 0, none⟩ (.int .i64 1)).setCell ⟨w.heap.size, 1, none⟩ (.int .i64 x0)).setCell ⟨w.heap.size, 2, none⟩ (.int .i64 x1)).setCell ⟨w.heap.size, 3, none⟩ (.int .i64 x2)).setCell ⟨w.heap.size, 4, none⟩ (.int .i64 0)).setCell ⟨w.heap.size, 5, none⟩ (.int .i64 0)).setCell ⟨w.heap.size, 6, none⟩ (.int .i64 0)).setCell ⟨w.heap.size, 7, none⟩ (.string ⟨#[]⟩)) := ((((((((B.setCell (Nat.le_refl _) _).setCell (Nat.le_refl _) _).setCell (Nat.le_refl _) _).setCell (Nat.le_refl _) _).setCell (Nat.le_refl _) _).setCell (Nat.le_refl _) _).setCell (Nat.le_refl _) _).setCell (Nat.le_refl _) _)
          have RF := ((((((((R.set0 1).set1 x0).set2 x1).set3 x2).set4 0).set5 0).set6 0).set7 ⟨#[]⟩)
          clear a0 a1 a2 a3 a4 a5 a6 a7 a8 b0 b1 b2 b3 b4 b5 b6 b7 b8 t0 t1 t2 t3 t4 t5 t6 t7 R N T m0 m1 m2 m3 m4 m5 m6 m7 m8 MX
          generalize ((((((((w2.setCell ⟨w.heap.size, 0, none⟩ (.int .i64 1)).setCell ⟨w.heap.size, 1, none⟩ (.int .i64 x0)).setCell ⟨w.heap.size, 2, none⟩ (.int .i64 x1)).setCell ⟨w.heap.size, 3, none⟩ (.int .i64 x2)).setCell ⟨w.heap.size, 4, none⟩ (.int .i64 0)).setCell ⟨w.heap.size, 5, none⟩ (.int .i64 0)).setCell ⟨w.heap.size, 6, none⟩ (.int .i64 0)).setCell ⟨w.heap.size, 7, none⟩ (.string ⟨#[]⟩)) = vf at *
          obtain ⟨a0, a1, a2, a3, a4, a5, a6, a7, a8⟩ := RF
          refine bodyPost_ret (v := .tuple #[.agg #[.int .i64 1, .int .i64 x0, .int .i64 x1, .int .i64 x2, .int .i64 0, .int .i64 0, .int .i64 0, .string ⟨#[]⟩], .int .i64 0]) (by simp (maxDischargeDepth := 6) [results, Try.results14, go_sem, a1, a2, a3, a4, a5, a6, a7, a8]) rfl ?_
          exact ⟨by rw [HU.out]; rfl, BF⟩
set_option maxRecDepth 100000 in
set_option maxHeartbeats 8000000 in
theorem specUnpack_k2 (b off n c : Nat) (f : Nat → Int) (w : World) (hn : 2 ≤ n) (hm20 : n ≤ 1048576) (hc : n ≤ c) (hcm : c ≤ maxLen) (hf : Byts w b off n f) (hr : ∀ i, i < n → 0 ≤ f i ∧ f i ≤ 255) (h : chk f (n - 1) = f (n - 1)) (hk : f 0 = 2) :
    Calls Try.prog 14 #[.slice (some ⟨b, off, none⟩) n c] w fun e w' => e = .returned (uv (unp f n)) ∧ Below w.heap.size w w' := by
  have HUN : Hid (unp f n = unp2 f (n - 1)) := by rw [Hid, unp, if_neg (by omega), if_neg (by rw [h]; simp), if_neg (by omega)]; simp [hk]
  obtain ⟨i0, hi0, hz0, hz1, hz2⟩ := info_parts infoInt
  have z1 : (w.alloc (.cells #[.int .i64 0, .int .i64 0, .int .i64 0, .int .i64 0, .int .i64 0, .int .i64 0, .int .i64 0, .string ⟨#[]⟩] 27)).heap.size = w.heap.size + 1 := by simp
  have R := (Box8.new w 0 0 0 0 0 0 0 ⟨#[]⟩ 27).alloc (.cells #[.int .i64 0, .int .i64 0, .int .i64 0, .int .i64 0, .int .i64 0, .int .i64 0, .int .i64 0, .string ⟨#[]⟩] 27)
  have T := (Thaw8.new w 0 0 0 0 0 0 0 ⟨#[]⟩ 27).alloc (by simp) (.cells #[.int .i64 0, .int .i64 0, .int .i64 0, .int .i64 0, .int .i64 0, .int .i64 0, .int .i64 0, .string ⟨#[]⟩] 27)
  have N := Box8.new (w.alloc (.cells #[.int .i64 0, .int .i64 0, .int .i64 0, .int .i64 0, .int .i64 0, .int .i64 0, .int .i64 0, .string ⟨#[]⟩] 27)) 0 0 0 0 0 0 0 ⟨#[]⟩ 27
  rw [z1] at N
  have B := ((Below.refl w.heap.size w).alloc (Nat.le_refl _) (.cells #[.int .i64 0, .int .i64 0, .int .i64 0, .int .i64 0, .int .i64 0, .int .i64 0, .int .i64 0, .string ⟨#[]⟩] 27)).alloc (by simp) (.cells #[.int .i64 0, .int .i64 0, .int .i64 0, .int .i64 0, .int .i64 0, .int .i64 0, .int .i64 0, .string ⟨#[]⟩] 27)
  clear z1
  have HF0 : Hid (Byts w b off n f) := hf
  have D0 := hf.below B hf.1
  have HD : Hid (Byts ((w.alloc (.cells #[.int .i64 0, .int .i64 0, .int .i64 0, .int .i64 0, .int .i64 0, .int .i64 0, .int .i64 0, .string ⟨#[]⟩] 27)).alloc (.cells #[.int .i64 0, .int .i64 0, .int .i64 0, .int .i64 0, .int .i64 0, .int .i64 0, .int .i64 0, .string ⟨#[]⟩] 27)) b off n f) := D0
  have bw : b < w.heap.size := hf.1
  have CC := fun (w' : World) (hs : SrcB w' (some ⟨b, off, none⟩) (n - 1) f) => specCheck8_any (some ⟨b, off, none⟩) (n - 1) c f w' (by unfold maxLen at hcm ⊢; omega) hs (fun i hi => hr i (by omega))
  have hlast := hr (n - 1) (by omega)
  have l0 := hlast.1
  have l1 := hlast.2
  have hfirst := hr 0 (by omega)
  have g0 := hfirst.1
  have g1 := hfirst.2
  unfold maxLen at hcm
  have hi2 : ¬ (n : Int) < 2 := by omega
  have hwn : IntKind.i64.wrap ((n : Int) - 1) = (n : Int) - 1 := Go.IntWalk.i64_in _ ⟨by omega, by omega⟩
  have hsb : 0 ≤ (n : Int) - 1 ∧ (n : Int) - 1 ≤ (c : Int) := ⟨by omega, by omega⟩
  have hn1 : (1 : Int) ≤ (n : Int) := by omega
  have hib : 0 ≤ (n : Int) - 1 ∧ (n : Int) - 1 < (n : Int) := ⟨by omega, by omega⟩
  have htn : ((n : Int) - 1).toNat = n - 1 := by omega
  have cl : ((w.alloc (.cells #[.int .i64 0, .int .i64 0, .int .i64 0, .int .i64 0, .int .i64 0, .int .i64 0, .int .i64 0, .string ⟨#[]⟩] 27)).alloc (.cells #[.int .i64 0, .int .i64 0, .int .i64 0, .int .i64 0, .int .i64 0, .int .i64 0, .int .i64 0, .string ⟨#[]⟩] 27)).cell? ⟨b, off + (n - 1), none⟩ = some (.int .u8 (f (n - 1))) := D0.2 (n - 1) (by omega)
  clear D0 hf hlast hfirst
  go_enter Try.func14, Try.ntmps14
  go_wp2_with fail
  generalize (w.alloc (.cells #[.int .i64 0, .int .i64 0, .int .i64 0, .int .i64 0, .int .i64 0, .int .i64 0, .int .i64 0, .string ⟨#[]⟩] 27)).alloc (.cells #[.int .i64 0, .int .i64 0, .int .i64 0, .int .i64 0, .int .i64 0, .int .i64 0, .int .i64 0, .string ⟨#[]⟩] 27) = v at *
  have HSD : Hid (SrcB v.drew (some ⟨b, off, none⟩) (n - 1) f) := (show SrcB v (some ⟨b, off, none⟩) (n - 1) f from .inr ⟨b, off, rfl, HD.out.1, fun i hi => HD.out.2 i (by omega)⟩)
  have hwl : IntKind.i64.wrap (f (n - 1)) = f (n - 1) := Go.IntWalk.i64_in _ ⟨by omega, by omega⟩
  have HRN : Hid (∀ i, i < n - 1 → 0 ≤ f i ∧ f i ≤ 255) := fun i hi => hr i (by omega)
  have hne : (chk f (n - 1) != f (n - 1)) = false := by simp [h]
  have cf : v.cell? ⟨b, off, none⟩ = some (.int .u8 2) := by rw [← hk]; exact HD.out.2 0 (by omega)
  have hn2 : 0 < n - 1 := by omega
  have hdk : decide ((1 : Int) ≤ 2 ∧ (2 : Int) ≤ 3) = true := by decide
  refine wp_region_held_drew (S := (fun w' => w'.cell? ⟨b, off + (n - 1), none⟩ = some (.int .u8 (f (n - 1))))) (by kernel_rfl) ?_ (fun hHeld => ?_)
  · first | exact cl | (simp (maxDischargeDepth := 6) [go_sem, *]; done)
  refine wpAnyH_take (i := 0) (v := ?_) (by rw [List.getElem?_toArray]; rfl) (by kernel_rfl) (by kernel_rfl) (by kernel_rfl) (by intro _ _ _ h; exact h) (Or.inl ⟨by rfl, ?_⟩) (by assumption) ?_
  rotate_left
  · (intro w hSw; (try dsimp only at hSw); go_simp; all_goals with_reducible rfl)
  (try simp only [Act.put, List.setIfInBounds_toArray, List.set_cons_zero, List.set_cons_succ])
  refine wpAnyH_take (i := 2) (v := ?_) (by rw [List.getElem?_toArray]; rfl) (by kernel_rfl) (by kernel_rfl) (by kernel_rfl) (by intro _ _ _ h; exact h) (Or.inl ⟨by rfl, ?_⟩) (by assumption) ?_
  rotate_left
  · (intro w hSw; (try dsimp only at hSw); go_simp; all_goals with_reducible rfl)
  (try simp only [Act.put, List.setIfInBounds_toArray, List.set_cons_zero, List.set_cons_succ])
  refine wpAnyH_take (i := 3) (v := ?_) (by rw [List.getElem?_toArray]; rfl) (by kernel_rfl) (by kernel_rfl) (by kernel_rfl) (by intro _ _ _ h; exact h) (Or.inl ⟨by rfl, ?_⟩) (by assumption) ?_
  rotate_left
  · (intro w hSw; (try dsimp only at hSw); go_simp; all_goals with_reducible rfl)
  (try simp only [Act.put, List.setIfInBounds_toArray, List.set_cons_zero, List.set_cons_succ])
  refine wpAnyH_take (i := 4) (v := ?_) (by rw [List.getElem?_toArray]; rfl) (by kernel_rfl) (by kernel_rfl) (by kernel_rfl) (by intro _ _ _ h; exact h) (Or.inl ⟨by rfl, ?_⟩) (by assumption) ?_
  rotate_left
  · (intro w hSw; (try dsimp only at hSw); go_simp; all_goals with_reducible rfl)
  (try simp only [Act.put, List.setIfInBounds_toArray, List.set_cons_zero, List.set_cons_succ])
  refine wpAnyH_take (i := 5) (v := ?_) (by rw [List.getElem?_toArray]; rfl) (by kernel_rfl) (by kernel_rfl) (by kernel_rfl) (by intro _ _ _ h; exact h) (Or.inl ⟨by rfl, ?_⟩) (by assumption) ?_
  rotate_left
  · (intro w hSw; (try dsimp only at hSw); go_simp; all_goals with_reducible rfl)
  (try simp only [Act.put, List.setIfInBounds_toArray, List.set_cons_zero, List.set_cons_succ])
  refine wpAnyH_take (i := 6) (v := ?_) (by rw [List.getElem?_toArray]; rfl) (by kernel_rfl) (by kernel_rfl) (by kernel_rfl) (by intro _ _ _ h; exact h) (Or.inl ⟨by rfl, ?_⟩) (by assumption) ?_
  rotate_left
  · (intro w hSw; (try dsimp only at hSw); go_simp; all_goals with_reducible rfl)
  (try simp only [Act.put, List.setIfInBounds_toArray, List.set_cons_zero, List.set_cons_succ])
  refine wpAnyH_take (i := 7) (v := ?_) (by rw [List.getElem?_toArray]; rfl) (by kernel_rfl) (by kernel_rfl) (by kernel_rfl) (by intro _ _ _ h; exact h) (Or.inl ⟨by rfl, ?_⟩) (by assumption) ?_
  rotate_left
  · (intro w hSw; (try dsimp only at hSw); go_simp; all_goals with_reducible rfl)
  (try simp only [Act.put, List.setIfInBounds_toArray, List.set_cons_zero, List.set_cons_succ])
  refine wpAnyH_take (i := 8) (v := ?_) (by rw [List.getElem?_toArray]; rfl) (by kernel_rfl) (by kernel_rfl) (by kernel_rfl) (by intro _ _ _ h; exact h) (Or.inl ⟨by rfl, ?_⟩) (by assumption) ?_
  rotate_left
  · (intro w hSw; (try dsimp only at hSw); go_simp; all_goals with_reducible rfl)
  (try simp only [Act.put, List.setIfInBounds_toArray, List.set_cons_zero, List.set_cons_succ])
  refine wpAnyH_ready (rs := [1]) (by kernel_rfl) (by simp) ?_
  refine AllReadyH.cons (by rw [List.getElem?_toArray]; rfl) (fun K hK => ?_) AllReadyH.nil
  go_simp
  refine (CC _ HSD.out).mono ?_; rintro e w' ⟨rfl, rfl⟩
  (try go_wp2_with fail)
  refine hK.out _ _ ?_ (fun hHeld => ?_)
  · first | exact cl | (simp (maxDischargeDepth := 6) [go_sem, *]; done)
  clear hK K
  (try simp only [Act.put, List.setIfInBounds_toArray, List.set_cons_zero, List.set_cons_succ])
  refine wpAnyH_take (i := 9) (v := ?_) (by rw [List.getElem?_toArray]; rfl) (by kernel_rfl) (by kernel_rfl) (by kernel_rfl) (by intro _ _ _ h; exact h) (Or.inl ⟨by rfl, ?_⟩) (by assumption) ?_
  rotate_left
  · (intro w hSw; (try dsimp only at hSw); go_simp; all_goals with_reducible rfl)
  (try simp only [Act.put, List.setIfInBounds_toArray, List.set_cons_zero, List.set_cons_succ])
  refine wpAnyH_done (by kernel_rfl) ?_ _
  clear hr h hk CC HSD hHeld g0 g1
  go_wp2_with fail
  refine (l1In_any _ _ _ _).mono ?_
  rintro e w' ⟨rfl, rfl⟩
  rw [hdk]
  go_wp2_with fail
  have hb2 : w.heap.size + 2 ≤ v.heap.size := N.1
  have O0 : ((v.alloc (.cells #[.int .i64 0, .int .i64 3, .int .i64 5, .int .i64 3] 3)).alloc (.cells #[] 3)).ownsRow (w.heap.size + 2) 3 1 (.slice (some ⟨v.heap.size + 1, 0, none⟩) 0 0) 0 (vls f (n - 1) 0) := by
    have q := World.ownsRow_made (e := 3) (size := 1) (base := w.heap.size + 2) (v.alloc (.cells #[.int .i64 0, .int .i64 3, .int .i64 5, .int .i64 3] 3)) #[] 0 (by simp; omega) (by simp [maxLen]) (by simp)
    rw [World.size_alloc] at q
    exact q
  replace O0 := World.ownsRow.drew O0
  have R0 := Box8.drew ((R.alloc (.cells #[.int .i64 0, .int .i64 3, .int .i64 5, .int .i64 3] 3)).alloc (.cells #[] 3))
  have N0 := Box8.drew ((N.alloc (.cells #[.int .i64 0, .int .i64 3, .int .i64 5, .int .i64 3] 3)).alloc (.cells #[] 3))
  have T0 := Thaw8.drew ((T.alloc R.1 (.cells #[.int .i64 0, .int .i64 3, .int .i64 5, .int .i64 3] 3)).alloc (R.alloc (.cells #[.int .i64 0, .int .i64 3, .int .i64 5, .int .i64 3] 3)).1 (.cells #[] 3))
  have BA := (Below.refl v.heap.size v).alloc (Nat.le_refl _) (.cells #[.int .i64 0, .int .i64 3, .int .i64 5, .int .i64 3] 3)
  have BA2 := BA.alloc BA.size (.cells #[] 3)
  have D0 := Byts.drew (HD.out.below BA2 HD.out.1)
  have B0 := Below.drew (B.trans (BA2.mono B.size))
  clear R N T B BA BA2 cl cf HD HF0
  generalize ((v.alloc (.cells #[.int .i64 0, .int .i64 3, .int .i64 5, .int .i64 3] 3)).alloc (.cells #[] 3)).drew = v5 at *
  have HO0 : Hid (v5.ownsRow (w.heap.size + 2) 3 1 (.slice (some ⟨v.heap.size + 1, 0, none⟩) 0 0) 0 (vls f (n - 1) 0)) := O0
  clear O0
  go_loopw [8, 9, 10] (fun nv av iv wr => ∃ j : Nat, j ≤ 5 ∧ iv = .int .i64 j ∧ av = .int .i64 (ats f (n - 1) j) ∧ okA f (n - 1) j = true ∧ wr.ownsRow (w.heap.size + 2) 3 1 nv j (vls f (n - 1) j) ∧ Box8 wr w.heap.size 0 0 0 0 0 0 0 ⟨#[]⟩ ∧ Thaw8 wr w.heap.size ∧ Box8 wr (w.heap.size + 1) 0 0 0 0 0 0 0 ⟨#[]⟩ ∧ Byts wr b off n f ∧ Below w.heap.size w wr) (fun _ _ iv _ => 5 - (intOf iv).toNat)
  case atStart => exact ⟨0, Nat.zero_le _, rfl, rfl, rfl, HO0.out, R0, T0, N0, D0, B0⟩
  case round =>
    obtain ⟨j, hj, rfl, rfl, hok, O, R, T, N, D, B⟩ := hrel
    clear HO0 R0 T0 N0 D0 B0
    have HOK : Hid (okA f (n - 1) j = true) := hok
    have HO : Hid (wr.ownsRow (w.heap.size + 2) 3 1 u8 j (vls f (n - 1) j)) := O
    have HD : Hid (Byts wr b off n f) := D
    clear hok O D
    by_cases hlt : j < 5
    · have hli : (j : Int) < 5 := by omega
      have CG := specGetNum_any (some ⟨b, off, none⟩) (n - 1) c (ats f (n - 1) j) f wr (by unfold maxLen; omega) (.inr ⟨b, off, rfl, HD.out.1, fun i hi => HD.out.2 i (by omega)⟩) HRN.out
      have EV : val f (n - 1) j = (getI f (n - 1) (ats f (n - 1) j)).1 := rfl
      have EA : ats f (n - 1) (j + 1) = (getI f (n - 1) (ats f (n - 1) j)).2.1 := rfl
      rw [← EV, ← EA] at CG
      have HVA := vls_add f (n - 1) j
      cases hfl : fldC f (n - 1) (ats f (n - 1) j)
      · have HU : Hid (unp f n = (4, zT)) := by rw [Hid, HUN.out, unp2, okA_no hfl 5 hlt]; rfl
        have hcase : (getI f (n - 1) (ats f (n - 1) j)).2.2 = false ∨ ((getI f (n - 1) (ats f (n - 1) j)).2.2 = true ∧ 4000000000000 < val f (n - 1) j) := by
          rw [EV]
          simp only [fldC] at hfl
          cases q : (getI f (n - 1) (ats f (n - 1) j)).2.2
          · exact .inl rfl
          · rw [q] at hfl; simp at hfl; exact .inr ⟨rfl, by omega⟩
        clear EV EA HVA hfl HUN HOK HO
        generalize (getI f (n - 1) (ats f (n - 1) j)).2.2 = ok at *
        generalize val f (n - 1) j = x at *
        generalize ats f (n - 1) (j + 1) = nx at *
        generalize ats f (n - 1) j = at0 at *
        rcases hcase with rfl | ⟨rfl, hgt⟩
        all_goals
          obtain ⟨a0, a1, a2, a3, a4, a5, a6, a7, a8⟩ := id R; obtain ⟨b0, b1, b2, b3, b4, b5, b6, b7, b8⟩ := id N; obtain ⟨t0, t1, t2, t3, t4, t5, t6, t7⟩ := id T
          go_wp2_with fail
          refine CG.mono ?_
          rintro e w' ⟨rfl, rfl⟩
          clear CG
          go_wp2_with fail
          have BF : Below w.heap.size w ((((((((wr.setCell ⟨w.heap.size, 0, none⟩ (.int .i64 0)).setCell ⟨w.heap.size, 1, none⟩ (.int .i64 0)).setCell ⟨w.heap.size, 2, none⟩ (.int .i64 0)).setCell ⟨w.heap.size, 3, none⟩ (.int .i64 0)).setCell ⟨w.heap.size, 4, none⟩ (.int .i64 0)).setCell ⟨w.heap.size, 5, none⟩ (.int .i64 0)).setCell ⟨w.heap.size, 6, none⟩ (.int .i64 0)).setCell ⟨w.heap.size, 7, none⟩ (.string ⟨#[]⟩)) := ((((((((B.setCell (Nat.le_refl _) _).setCell (Nat.le_refl _) _).setCell (Nat.le_refl _) _).setCell (Nat.le_refl _) _).setCell (Nat.le_refl _) _).setCell (Nat.le_refl _) _).setCell (Nat.le_refl _) _).setCell (Nat.le_refl _) _)
          have RF := ((((((((R.set0 0).set1 0).set2 0).set3 0).set4 0).set5 0).set6 0).set7 ⟨#[]⟩)
          clear a0 a1 a2 a3 a4 a5 a6 a7 a8 b0 b1 b2 b3 b4 b5 b6 b7 b8 t0 t1 t2 t3 t4 t5 t6 t7 R N T
          generalize ((((((((wr.setCell ⟨w.heap.size, 0, none⟩ (.int .i64 0)).setCell ⟨w.heap.size, 1, none⟩ (.int .i64 0)).setCell ⟨w.heap.size, 2, none⟩ (.int .i64 0)).setCell ⟨w.heap.size, 3, none⟩ (.int .i64 0)).setCell ⟨w.heap.size, 4, none⟩ (.int .i64 0)).setCell ⟨w.heap.size, 5, none⟩ (.int .i64 0)).setCell ⟨w.heap.size, 6, none⟩ (.int .i64 0)).setCell ⟨w.heap.size, 7, none⟩ (.string ⟨#[]⟩)) = vf at *
          obtain ⟨a0, a1, a2, a3, a4, a5, a6, a7, a8⟩ := RF
          refine bodyPost_ret (v := .tuple #[.agg #[.int .i64 0, .int .i64 0, .int .i64 0, .int .i64 0, .int .i64 0, .int .i64 0, .int .i64 0, .string ⟨#[]⟩], .int .i64 4]) (by simp (maxDischargeDepth := 6) [results, Try.results14, go_sem, a1, a2, a3, a4, a5, a6, a7, a8]) rfl ?_
          exact ⟨by rw [HU.out]; rfl, BF⟩
      · have hfc : (getI f (n - 1) (ats f (n - 1) j)).2.2 = true ∧ val f (n - 1) j ≤ 4000000000000 := by
          rw [EV]; simp only [fldC, Bool.and_eq_true, decide_eq_true_eq] at hfl; exact hfl
        have HOK2 : Hid (okA f (n - 1) (j + 1) = true) := by rw [Hid, okA, HOK.out, hfl]; rfl
        rw [hfc.1] at CG
        have hle := hfc.2
        have hO : wr.ownsRow (w.heap.size + 2) 3 1 u8 j (vls f (n - 1) j) := HO.out
        have hwz : w.heap.size + 2 ≤ wr.heap.size := N.1
        clear EV EA hfl HUN HOK hfc
        generalize hx : val f (n - 1) j = x at *
        generalize hnx : ats f (n - 1) (j + 1) = nx at *
        have HNX : Hid (ats f (n - 1) (j + 1) = nx) := hnx
        clear hx hnx
        go_wp2_with fail
        refine CG.mono ?_
        rintro e w' ⟨rfl, rfl⟩
        clear CG
        have A := (Below.refl wr.heap.size wr).alloc (Nat.le_refl _) (.cells #[.int .i64 x] 3)
        go_wp2_with (at_builtin; refine wpList_append_own _ rfl _ _ 55 rfl (w.heap.size + 2) 3 i0 (.int .i64 0) 1 8 Try.underlying55 hi0 hz0 hz1 hz2 rfl (by decide) _ _ _ rfl (World.ownsRow.alloc hO _) ⟨wr.heap.size, 0, none⟩ 1 1 [.int .i64 x] rfl rfl (fun q u hq => int_at wr _ 3 q u hq) (by intro u hu; simp at hu; subst hu; rfl) (by unfold maxLen; omega) (by omega) (by simp; omega) ?_; intro v' wn hown' hgrow _)
        have G := grownB_below (World.ownsRow.alloc hO _) hgrow (by simp; omega)
        replace B := (B.trans (A.mono B.size)).trans (G.mono (by omega))
        replace R := (R.alloc (.cells #[.int .i64 x] 3)).belowB G (by omega)
        replace N := (N.alloc (.cells #[.int .i64 x] 3)).belowB G (by omega)
        replace T := (T.alloc (by omega) (.cells #[.int .i64 x] 3)).belowB G (by omega)
        have HD2 : Hid (Byts wn b off n f) := (HD.out.below A HD.out.1).below G (by omega)
        have HO2 : Hid (wn.ownsRow (w.heap.size + 2) 3 1 v' (j + 1) (vls f (n - 1) (j + 1))) := by rw [Hid, HVA]; exact hown'
        clear hown' hgrow G A hO HO HD
        go_wp2_with fail
        go_roundw
        case rel => exact ⟨j + 1, by omega, by go_num, by rw [HNX.out], HOK2.out, HO2.out, R, T, N, HD2.out, B⟩
        case measure => simp [intOf]; omega
    · have hj' : j = 5 := by omega
      subst hj'
      obtain ⟨g, cg, rfl, hg, HV⟩ := own_val HO.out (by omega)
      have hgl : g < wr.heap.size := (HO.out.lt g rfl).2
      have HB0 : Hid (∀ i, i < n - 1 → 0 ≤ f i) := fun i hi => (HRN.out i hi).1
      have hats := ats_bd HB0.out HOK.out
      have ha1 := hats.1
      have ha2 := hats.2 (by omega)
      have HUK : Hid (unp f n = unp2 f (n - 1)) := HUN.out
      have c0 := HV 0 (by omega)
      have vb0 := val_bd HB0.out HOK.out (j := 0) (by omega)
      have c1 := HV 1 (by omega)
      have vb1 := val_bd HB0.out HOK.out (j := 1) (by omega)
      have c2 := HV 2 (by omega)
      have vb2 := val_bd HB0.out HOK.out (j := 2) (by omega)
      have c3 := HV 3 (by omega)
      have vb3 := val_bd HB0.out HOK.out (j := 3) (by omega)
      have c4 := HV 4 (by omega)
      have vb4 := val_bd HB0.out HOK.out (j := 4) (by omega)
      have HUF : Hid (unp f n = if okA f (n - 1) 5 then _ else (4, zT)) := HUK.out
      rw [HOK.out] at HUF
      clear HUK HUN HV hats HO HB0 HRN HOK
      generalize val f (n - 1) 0 = x0 at *
      generalize val f (n - 1) 1 = x1 at *
      generalize val f (n - 1) 2 = x2 at *
      generalize val f (n - 1) 3 = x3 at *
      generalize val f (n - 1) 4 = x4 at *
      generalize ats f (n - 1) 5 = at0 at *
      have HUG : Hid (unp f n = fin (n - 1) (2, x0, x1, x2, endI x3, endI x4, 0, ⟨#[]⟩) at0) := HUF.out
      have CE3 := fun w' => l4End_any x3 w' vb3.1
      have CE4 := fun w' => l4End_any x4 w' vb4.1
      generalize endI x3 = e3 at *
      generalize endI x4 = e4 at *
      clear HUF
      have hcast : ((n - 1 : Nat) : Int) = (n : Int) - 1 := by omega
      by_cases hlong : at0 < ((n - 1 : Nat) : Int)
      · have HU : Hid (unp f n = (6, zT)) := by rw [Hid, HUG.out]; exact fin_long hlong
        have hlong' : at0 < (n : Int) - 1 := by omega
        clear HUG HD
        obtain ⟨a0, a1, a2, a3, a4, a5, a6, a7, a8⟩ := id R; obtain ⟨b0, b1, b2, b3, b4, b5, b6, b7, b8⟩ := id N; obtain ⟨t0, t1, t2, t3, t4, t5, t6, t7⟩ := id T
        go_wp2_with fail
        have hgw : ¬ g = wr.heap.size := by omega
        have hgw2 : ¬ wr.heap.size = g := by omega
        refine wp_region_held_drew (S := (fun w' => w'.cell? ⟨g, 3, none⟩ = some (.int .i64 x3) ∧ w'.cell? ⟨g, 4, none⟩ = some (.int .i64 x4))) (by kernel_rfl) ?_ (fun hHeld => ?_)
        · first | exact ⟨c3, c4⟩ | (simp (maxDischargeDepth := 6) [go_sem, *]; done)
        refine wpAnyH_take (i := 0) (v := ?_) (by rw [List.getElem?_toArray]; rfl) (by kernel_rfl) (by kernel_rfl) (by kernel_rfl) (by intro _ _ _ h; exact h) (Or.inl ⟨by rfl, ?_⟩) (by assumption) ?_
        rotate_left
        · (intro w hSw; (try dsimp only at hSw); go_simp; all_goals with_reducible rfl)
        (try simp only [Act.put, List.setIfInBounds_toArray, List.set_cons_zero, List.set_cons_succ])
        refine wpAnyH_take (i := 1) (v := ?_) (by rw [List.getElem?_toArray]; rfl) (by kernel_rfl) (by kernel_rfl) (by kernel_rfl) (by intro _ _ _ h; exact h) (Or.inl ⟨by rfl, ?_⟩) (by assumption) ?_
        rotate_left
        · (intro w hSw; (try dsimp only at hSw); go_simp; all_goals with_reducible rfl)
        (try simp only [Act.put, List.setIfInBounds_toArray, List.set_cons_zero, List.set_cons_succ])
        refine wpAnyH_take (i := 2) (v := ?_) (by rw [List.getElem?_toArray]; rfl) (by kernel_rfl) (by kernel_rfl) (by kernel_rfl) (by intro _ _ _ h; exact h) (Or.inl ⟨by rfl, ?_⟩) (by assumption) ?_
        rotate_left
        · (intro w hSw; (try dsimp only at hSw); go_simp; all_goals with_reducible rfl)
        (try simp only [Act.put, List.setIfInBounds_toArray, List.set_cons_zero, List.set_cons_succ])
        refine wpAnyH_take (i := 4) (v := ?_) (by rw [List.getElem?_toArray]; rfl) (by kernel_rfl) (by kernel_rfl) (by kernel_rfl) (by intro _ _ _ h; exact h) (Or.inl ⟨by rfl, ?_⟩) (by assumption) ?_
        rotate_left
        · (intro w hSw; (try dsimp only at hSw); go_simp; all_goals with_reducible rfl)
        (try simp only [Act.put, List.setIfInBounds_toArray, List.set_cons_zero, List.set_cons_succ])
        refine wpAnyH_take (i := 5) (v := ?_) (by rw [List.getElem?_toArray]; rfl) (by kernel_rfl) (by kernel_rfl) (by kernel_rfl) (by intro _ _ _ h; exact h) (Or.inl ⟨by rfl, ?_⟩) (by assumption) ?_
        rotate_left
        · (intro w hSw; (try dsimp only at hSw); go_simp; all_goals with_reducible rfl)
        (try simp only [Act.put, List.setIfInBounds_toArray, List.set_cons_zero, List.set_cons_succ])
        refine wpAnyH_take (i := 6) (v := ?_) (by rw [List.getElem?_toArray]; rfl) (by kernel_rfl) (by kernel_rfl) (by kernel_rfl) (by intro _ _ _ h; exact h) (Or.inl ⟨by rfl, ?_⟩) (by assumption) ?_
        rotate_left
        · (intro w hSw; (try dsimp only at hSw); go_simp; all_goals with_reducible rfl)
        (try simp only [Act.put, List.setIfInBounds_toArray, List.set_cons_zero, List.set_cons_succ])
        refine wpAnyH_ready (rs := [3]) (by kernel_rfl) (by simp) ?_
        refine AllReadyH.cons (by rw [List.getElem?_toArray]; rfl) (fun K hK => ?_) AllReadyH.nil
        go_simp
        refine (CE3 _).mono ?_; rintro e w' ⟨rfl, rfl⟩
        (try go_wp2_with fail)
        refine hK.out _ _ ?_ (fun hHeld => ?_)
        · first | exact ⟨c3, c4⟩ | (simp (maxDischargeDepth := 6) [go_sem, *]; done)
        clear hK K
        (try simp only [Act.put, List.setIfInBounds_toArray, List.set_cons_zero, List.set_cons_succ])
        refine wpAnyH_ready (rs := [7]) (by kernel_rfl) (by simp) ?_
        refine AllReadyH.cons (by rw [List.getElem?_toArray]; rfl) (fun K hK => ?_) AllReadyH.nil
        go_simp
        refine (CE4 _).mono ?_; rintro e w' ⟨rfl, rfl⟩
        (try go_wp2_with fail)
        refine hK.out _ _ ?_ (fun hHeld => ?_)
        · first | exact ⟨c3, c4⟩ | (simp (maxDischargeDepth := 6) [go_sem, *]; done)
        clear hK K
        (try simp only [Act.put, List.setIfInBounds_toArray, List.set_cons_zero, List.set_cons_succ])
        refine wpAnyH_take (i := 8) (v := ?_) (by rw [List.getElem?_toArray]; rfl) (by kernel_rfl) (by kernel_rfl) (by kernel_rfl) (by intro _ _ _ h; exact h) (Or.inl ⟨by rfl, ?_⟩) (by assumption) ?_
        rotate_left
        · (intro w hSw; (try dsimp only at hSw); go_simp; all_goals with_reducible rfl)
        (try simp only [Act.put, List.setIfInBounds_toArray, List.set_cons_zero, List.set_cons_succ])
        refine wpAnyH_take (i := 9) (v := ?_) (by rw [List.getElem?_toArray]; rfl) (by kernel_rfl) (by kernel_rfl) (by kernel_rfl) (by intro _ _ _ h; exact h) (Or.inl ⟨by rfl, ?_⟩) (by assumption) ?_
        rotate_left
        · (intro w hSw; (try dsimp only at hSw); go_simp; all_goals with_reducible rfl)
        (try simp only [Act.put, List.setIfInBounds_toArray, List.set_cons_zero, List.set_cons_succ])
        refine wpAnyH_ready (rs := [10]) (by kernel_rfl) (by simp) ?_
        refine AllReadyH.cons (by rw [List.getElem?_toArray]; rfl) (fun K hK => ?_) AllReadyH.nil
        go_simp
        refine hK.out _ _ ?_ (fun hHeld => ?_)
        · first | exact ⟨c3, c4⟩ | (simp (maxDischargeDepth := 6) [go_sem, *]; done)
        clear hK K
        (try simp only [Act.put, List.setIfInBounds_toArray, List.set_cons_zero, List.set_cons_succ])
        refine wpAnyH_done (by kernel_rfl) ?_ _
        go_wp2_with fail
        have BF : Below w.heap.size w ((((((((wr.setCell ⟨w.heap.size, 0, none⟩ (.int .i64 0)).setCell ⟨w.heap.size, 1, none⟩ (.int .i64 0)).setCell ⟨w.heap.size, 2, none⟩ (.int .i64 0)).setCell ⟨w.heap.size, 3, none⟩ (.int .i64 0)).setCell ⟨w.heap.size, 4, none⟩ (.int .i64 0)).setCell ⟨w.heap.size, 5, none⟩ (.int .i64 0)).setCell ⟨w.heap.size, 6, none⟩ (.int .i64 0)).setCell ⟨w.heap.size, 7, none⟩ (.string ⟨#[]⟩)) := ((((((((B.setCell (Nat.le_refl _) _).setCell (Nat.le_refl _) _).setCell (Nat.le_refl _) _).setCell (Nat.le_refl _) _).setCell (Nat.le_refl _) _).setCell (Nat.le_refl _) _).setCell (Nat.le_refl _) _).setCell (Nat.le_refl _) _)
        have RF := ((((((((R.set0 0).set1 0).set2 0).set3 0).set4 0).set5 0).set6 0).set7 ⟨#[]⟩)
        replace BF := BF.alloc BF.size (.cells #[.int .i64 2, .int .i64 x0, .int .i64 x1, .int .i64 x2, .int .i64 e3, .int .i64 e4, .int .i64 0, .string ⟨#[]⟩] 27)
        replace RF := RF.alloc (.cells #[.int .i64 2, .int .i64 x0, .int .i64 x1, .int .i64 x2, .int .i64 e3, .int .i64 e4, .int .i64 0, .string ⟨#[]⟩] 27)
        clear a0 a1 a2 a3 a4 a5 a6 a7 a8 b0 b1 b2 b3 b4 b5 b6 b7 b8 t0 t1 t2 t3 t4 t5 t6 t7 R N T
        generalize (((((((((wr.setCell ⟨w.heap.size, 0, none⟩ (.int .i64 0)).setCell ⟨w.heap.size, 1, none⟩ (.int .i64 0)).setCell ⟨w.heap.size, 2, none⟩ (.int .i64 0)).setCell ⟨w.heap.size, 3, none⟩ (.int .i64 0)).setCell ⟨w.heap.size, 4, none⟩ (.int .i64 0)).setCell ⟨w.heap.size, 5, none⟩ (.int .i64 0)).setCell ⟨w.heap.size, 6, none⟩ (.int .i64 0)).setCell ⟨w.heap.size, 7, none⟩ (.string ⟨#[]⟩)).alloc (.cells #[.int .i64 2, .int .i64 x0, .int .i64 x1, .int .i64 x2, .int .i64 e3, .int .i64 e4, .int .i64 0, .string ⟨#[]⟩] 27)) = vf at *
        obtain ⟨a0, a1, a2, a3, a4, a5, a6, a7, a8⟩ := RF
        refine bodyPost_ret (v := .tuple #[.agg #[.int .i64 0, .int .i64 0, .int .i64 0, .int .i64 0, .int .i64 0, .int .i64 0, .int .i64 0, .string ⟨#[]⟩], .int .i64 6]) (by simp (maxDischargeDepth := 6) [results, Try.results14, go_sem, a1, a2, a3, a4, a5, a6, a7, a8]) rfl ?_
        exact ⟨by rw [HU.out]; rfl, Below.drew BF⟩
      · have hlong' : ¬ at0 < (n : Int) - 1 := by omega
        have CK := fun w' => specMsgOk_any 2 x0 x1 x2 e3 e4 0 ⟨#[]⟩ w' (by first | omega | decide)
        cases hmb : msgB 2 x0 x1 x2 e3 e4 0 ⟨#[]⟩
        all_goals
          rw [hmb] at CK
        · have HU : Hid (unp f n = (5, zT)) := by rw [Hid, HUG.out]; exact fin_bad hlong hmb
          clear HUG HD hmb
          obtain ⟨a0, a1, a2, a3, a4, a5, a6, a7, a8⟩ := id R; obtain ⟨b0, b1, b2, b3, b4, b5, b6, b7, b8⟩ := id N; obtain ⟨t0, t1, t2, t3, t4, t5, t6, t7⟩ := id T
          go_wp2_with fail
          have hgw : ¬ g = wr.heap.size := by omega
          have hgw2 : ¬ wr.heap.size = g := by omega
          refine wp_region_held_drew (S := (fun w' => w'.cell? ⟨g, 3, none⟩ = some (.int .i64 x3) ∧ w'.cell? ⟨g, 4, none⟩ = some (.int .i64 x4))) (by kernel_rfl) ?_ (fun hHeld => ?_)
          · first | exact ⟨c3, c4⟩ | (simp (maxDischargeDepth := 6) [go_sem, *]; done)
          refine wpAnyH_take (i := 0) (v := ?_) (by rw [List.getElem?_toArray]; rfl) (by kernel_rfl) (by kernel_rfl) (by kernel_rfl) (by intro _ _ _ h; exact h) (Or.inl ⟨by rfl, ?_⟩) (by assumption) ?_
          rotate_left
          · (intro w hSw; (try dsimp only at hSw); go_simp; all_goals with_reducible rfl)
          (try simp only [Act.put, List.setIfInBounds_toArray, List.set_cons_zero, List.set_cons_succ])
          refine wpAnyH_take (i := 1) (v := ?_) (by rw [List.getElem?_toArray]; rfl) (by kernel_rfl) (by kernel_rfl) (by kernel_rfl) (by intro _ _ _ h; exact h) (Or.inl ⟨by rfl, ?_⟩) (by assumption) ?_
          rotate_left
          · (intro w hSw; (try dsimp only at hSw); go_simp; all_goals with_reducible rfl)
          (try simp only [Act.put, List.setIfInBounds_toArray, List.set_cons_zero, List.set_cons_succ])
          refine wpAnyH_take (i := 2) (v := ?_) (by rw [List.getElem?_toArray]; rfl) (by kernel_rfl) (by kernel_rfl) (by kernel_rfl) (by intro _ _ _ h; exact h) (Or.inl ⟨by rfl, ?_⟩) (by assumption) ?_
          rotate_left
          · (intro w hSw; (try dsimp only at hSw); go_simp; all_goals with_reducible rfl)
          (try simp only [Act.put, List.setIfInBounds_toArray, List.set_cons_zero, List.set_cons_succ])
          refine wpAnyH_take (i := 4) (v := ?_) (by rw [List.getElem?_toArray]; rfl) (by kernel_rfl) (by kernel_rfl) (by kernel_rfl) (by intro _ _ _ h; exact h) (Or.inl ⟨by rfl, ?_⟩) (by assumption) ?_
          rotate_left
          · (intro w hSw; (try dsimp only at hSw); go_simp; all_goals with_reducible rfl)
          (try simp only [Act.put, List.setIfInBounds_toArray, List.set_cons_zero, List.set_cons_succ])
          refine wpAnyH_take (i := 5) (v := ?_) (by rw [List.getElem?_toArray]; rfl) (by kernel_rfl) (by kernel_rfl) (by kernel_rfl) (by intro _ _ _ h; exact h) (Or.inl ⟨by rfl, ?_⟩) (by assumption) ?_
          rotate_left
          · (intro w hSw; (try dsimp only at hSw); go_simp; all_goals with_reducible rfl)
          (try simp only [Act.put, List.setIfInBounds_toArray, List.set_cons_zero, List.set_cons_succ])
          refine wpAnyH_take (i := 6) (v := ?_) (by rw [List.getElem?_toArray]; rfl) (by kernel_rfl) (by kernel_rfl) (by kernel_rfl) (by intro _ _ _ h; exact h) (Or.inl ⟨by rfl, ?_⟩) (by assumption) ?_
          rotate_left
          · (intro w hSw; (try dsimp only at hSw); go_simp; all_goals with_reducible rfl)
          (try simp only [Act.put, List.setIfInBounds_toArray, List.set_cons_zero, List.set_cons_succ])
          refine wpAnyH_ready (rs := [3]) (by kernel_rfl) (by simp) ?_
          refine AllReadyH.cons (by rw [List.getElem?_toArray]; rfl) (fun K hK => ?_) AllReadyH.nil
          go_simp
          refine (CE3 _).mono ?_; rintro e w' ⟨rfl, rfl⟩
          (try go_wp2_with fail)
          refine hK.out _ _ ?_ (fun hHeld => ?_)
          · first | exact ⟨c3, c4⟩ | (simp (maxDischargeDepth := 6) [go_sem, *]; done)
          clear hK K
          (try simp only [Act.put, List.setIfInBounds_toArray, List.set_cons_zero, List.set_cons_succ])
          refine wpAnyH_ready (rs := [7]) (by kernel_rfl) (by simp) ?_
          refine AllReadyH.cons (by rw [List.getElem?_toArray]; rfl) (fun K hK => ?_) AllReadyH.nil
          go_simp
          refine (CE4 _).mono ?_; rintro e w' ⟨rfl, rfl⟩
          (try go_wp2_with fail)
          refine hK.out _ _ ?_ (fun hHeld => ?_)
          · first | exact ⟨c3, c4⟩ | (simp (maxDischargeDepth := 6) [go_sem, *]; done)
          clear hK K
          (try simp only [Act.put, List.setIfInBounds_toArray, List.set_cons_zero, List.set_cons_succ])
          refine wpAnyH_take (i := 8) (v := ?_) (by rw [List.getElem?_toArray]; rfl) (by kernel_rfl) (by kernel_rfl) (by kernel_rfl) (by intro _ _ _ h; exact h) (Or.inl ⟨by rfl, ?_⟩) (by assumption) ?_
          rotate_left
          · (intro w hSw; (try dsimp only at hSw); go_simp; all_goals with_reducible rfl)
          (try simp only [Act.put, List.setIfInBounds_toArray, List.set_cons_zero, List.set_cons_succ])
          refine wpAnyH_take (i := 9) (v := ?_) (by rw [List.getElem?_toArray]; rfl) (by kernel_rfl) (by kernel_rfl) (by kernel_rfl) (by intro _ _ _ h; exact h) (Or.inl ⟨by rfl, ?_⟩) (by assumption) ?_
          rotate_left
          · (intro w hSw; (try dsimp only at hSw); go_simp; all_goals with_reducible rfl)
          (try simp only [Act.put, List.setIfInBounds_toArray, List.set_cons_zero, List.set_cons_succ])
          refine wpAnyH_ready (rs := [10]) (by kernel_rfl) (by simp) ?_
          refine AllReadyH.cons (by rw [List.getElem?_toArray]; rfl) (fun K hK => ?_) AllReadyH.nil
          go_simp
          refine hK.out _ _ ?_ (fun hHeld => ?_)
          · first | exact ⟨c3, c4⟩ | (simp (maxDischargeDepth := 6) [go_sem, *]; done)
          clear hK K
          (try simp only [Act.put, List.setIfInBounds_toArray, List.set_cons_zero, List.set_cons_succ])
          refine wpAnyH_done (by kernel_rfl) ?_ _
          go_wp2_with fail
          refine (CK _).mono ?_
          rintro e w2 ⟨rfl, hb⟩
          replace R := (Box8.drew (R.alloc (.cells #[.int .i64 2, .int .i64 x0, .int .i64 x1, .int .i64 x2, .int .i64 e3, .int .i64 e4, .int .i64 0, .string ⟨#[]⟩] 27))).below hb
          replace N := (Box8.drew (N.alloc (.cells #[.int .i64 2, .int .i64 x0, .int .i64 x1, .int .i64 x2, .int .i64 e3, .int .i64 e4, .int .i64 0, .string ⟨#[]⟩] 27))).below hb
          replace T := (Thaw8.drew (T.alloc (by omega) (.cells #[.int .i64 2, .int .i64 x0, .int .i64 x1, .int .i64 x2, .int .i64 e3, .int .i64 e4, .int .i64 0, .string ⟨#[]⟩] 27))).belowB hb (by simp; omega)
          replace B := (Below.drew (B.alloc B.size (.cells #[.int .i64 2, .int .i64 x0, .int .i64 x1, .int .i64 x2, .int .i64 e3, .int .i64 e4, .int .i64 0, .string ⟨#[]⟩] 27))).trans (hb.mono (by simp; omega))
          clear a0 a1 a2 a3 a4 a5 a6 a7 a8 b0 b1 b2 b3 b4 b5 b6 b7 b8 t0 t1 t2 t3 t4 t5 t6 t7
          obtain ⟨a0, a1, a2, a3, a4, a5, a6, a7, a8⟩ := id R; obtain ⟨b0, b1, b2, b3, b4, b5, b6, b7, b8⟩ := id N; obtain ⟨t0, t1, t2, t3, t4, t5, t6, t7⟩ := id T
          clear hb CK
          go_wp2_with fail
          have BF : Below w.heap.size w ((((((((w2.setCell ⟨w.heap.size, 0, none⟩ (.int .i64 0)).setCell ⟨w.heap.size, 1, none⟩ (.int .i64 0)).setCell ⟨w.heap.size, 2, none⟩ (.int .i64 0)).setCell ⟨w.heap.size, 3, none⟩ (.int .i64 0)).setCell ⟨w.heap.size, 4, none⟩ (.int .i64 0)).setCell ⟨w.heap.size, 5, none⟩ (.int .i64 0)).setCell ⟨w.heap.size, 6, none⟩ (.int .i64 0)).setCell ⟨w.heap.size, 7, none⟩ (.string ⟨#[]⟩)) := ((((((((B.setCell (Nat.le_refl _) _).setCell (Nat.le_refl _) _).setCell (Nat.le_refl _) _).setCell (Nat.le_refl _) _).setCell (Nat.le_refl _) _).setCell (Nat.le_refl _) _).setCell (Nat.le_refl _) _).setCell (Nat.le_refl _) _)
          have RF := ((((((((R.set0 0).set1 0).set2 0).set3 0).set4 0).set5 0).set6 0).set7 ⟨#[]⟩)
          clear a0 a1 a2 a3 a4 a5 a6 a7 a8 b0 b1 b2 b3 b4 b5 b6 b7 b8 t0 t1 t2 t3 t4 t5 t6 t7 R N T
          generalize ((((((((w2.setCell ⟨w.heap.size, 0, none⟩ (.int .i64 0)).setCell ⟨w.heap.size, 1, none⟩ (.int .i64 0)).setCell ⟨w.heap.size, 2, none⟩ (.int .i64 0)).setCell ⟨w.heap.size, 3, none⟩ (.int .i64 0)).setCell ⟨w.heap.size, 4, none⟩ (.int .i64 0)).setCell ⟨w.heap.size, 5, none⟩ (.int .i64 0)).setCell ⟨w.heap.size, 6, none⟩ (.int .i64 0)).setCell ⟨w.heap.size, 7, none⟩ (.string ⟨#[]⟩)) = vf at *
          obtain ⟨a0, a1, a2, a3, a4, a5, a6, a7, a8⟩ := RF
          refine bodyPost_ret (v := .tuple #[.agg #[.int .i64 0, .int .i64 0, .int .i64 0, .int .i64 0, .int .i64 0, .int .i64 0, .int .i64 0, .string ⟨#[]⟩], .int .i64 5]) (by simp (maxDischargeDepth := 6) [results, Try.results14, go_sem, a1, a2, a3, a4, a5, a6, a7, a8]) rfl ?_
          exact ⟨by rw [HU.out]; rfl, BF⟩
        · have HU : Hid (unp f n = (0, (2, x0, x1, x2, e3, e4, 0, ⟨#[]⟩))) := by rw [Hid, HUG.out]; exact fin_well hlong hmb
          clear HUG HD hmb
          obtain ⟨a0, a1, a2, a3, a4, a5, a6, a7, a8⟩ := id R; obtain ⟨b0, b1, b2, b3, b4, b5, b6, b7, b8⟩ := id N; obtain ⟨t0, t1, t2, t3, t4, t5, t6, t7⟩ := id T
          go_wp2_with fail
          have hgw : ¬ g = wr.heap.size := by omega
          have hgw2 : ¬ wr.heap.size = g := by omega
          refine wp_region_held_drew (S := (fun w' => w'.cell? ⟨g, 3, none⟩ = some (.int .i64 x3) ∧ w'.cell? ⟨g, 4, none⟩ = some (.int .i64 x4))) (by kernel_rfl) ?_ (fun hHeld => ?_)
          · first | exact ⟨c3, c4⟩ | (simp (maxDischargeDepth := 6) [go_sem, *]; done)
          refine wpAnyH_take (i := 0) (v := ?_) (by rw [List.getElem?_toArray]; rfl) (by kernel_rfl) (by kernel_rfl) (by kernel_rfl) (by intro _ _ _ h; exact h) (Or.inl ⟨by rfl, ?_⟩) (by assumption) ?_
          rotate_left
          · (intro w hSw; (try dsimp only at hSw); go_simp; all_goals with_reducible rfl)
          (try simp only [Act.put, List.setIfInBounds_toArray, List.set_cons_zero, List.set_cons_succ])
          refine wpAnyH_take (i := 1) (v := ?_) (by rw [List.getElem?_toArray]; rfl) (by kernel_rfl) (by kernel_rfl) (by kernel_rfl) (by intro _ _ _ h; exact h) (Or.inl ⟨by rfl, ?_⟩) (by assumption) ?_
          rotate_left
          · (intro w hSw; (try dsimp only at hSw); go_simp; all_goals with_reducible rfl)
          (try simp only [Act.put, List.setIfInBounds_toArray, List.set_cons_zero, List.set_cons_succ])
          refine wpAnyH_take (i := 2) (v := ?_) (by rw [List.getElem?_toArray]; rfl) (by kernel_rfl) (by kernel_rfl) (by kernel_rfl) (by intro _ _ _ h; exact h) (Or.inl ⟨by rfl, ?_⟩) (by assumption) ?_
          rotate_left
          · (intro w hSw; (try dsimp only at hSw); go_simp; all_goals with_reducible rfl)
          (try simp only [Act.put, List.setIfInBounds_toArray, List.set_cons_zero, List.set_cons_succ])
          refine wpAnyH_take (i := 4) (v := ?_) (by rw [List.getElem?_toArray]; rfl) (by kernel_rfl) (by kernel_rfl) (by kernel_rfl) (by intro _ _ _ h; exact h) (Or.inl ⟨by rfl, ?_⟩) (by assumption) ?_
          rotate_left
          · (intro w hSw; (try dsimp only at hSw); go_simp; all_goals with_reducible rfl)
          (try simp only [Act.put, List.setIfInBounds_toArray, List.set_cons_zero, List.set_cons_succ])
          refine wpAnyH_take (i := 5) (v := ?_) (by rw [List.getElem?_toArray]; rfl) (by kernel_rfl) (by kernel_rfl) (by kernel_rfl) (by intro _ _ _ h; exact h) (Or.inl ⟨by rfl, ?_⟩) (by assumption) ?_
          rotate_left
          · (intro w hSw; (try dsimp only at hSw); go_simp; all_goals with_reducible rfl)
          (try simp only [Act.put, List.setIfInBounds_toArray, List.set_cons_zero, List.set_cons_succ])
          refine wpAnyH_take (i := 6) (v := ?_) (by rw [List.getElem?_toArray]; rfl) (by kernel_rfl) (by kernel_rfl) (by kernel_rfl) (by intro _ _ _ h; exact h) (Or.inl ⟨by rfl, ?_⟩) (by assumption) ?_
          rotate_left
          · (intro w hSw; (try dsimp only at hSw); go_simp; all_goals with_reducible rfl)
          (try simp only [Act.put, List.setIfInBounds_toArray, List.set_cons_zero, List.set_cons_succ])
          refine wpAnyH_ready (rs := [3]) (by kernel_rfl) (by simp) ?_
          refine AllReadyH.cons (by rw [List.getElem?_toArray]; rfl) (fun K hK => ?_) AllReadyH.nil
          go_simp
          refine (CE3 _).mono ?_; rintro e w' ⟨rfl, rfl⟩
          (try go_wp2_with fail)
          refine hK.out _ _ ?_ (fun hHeld => ?_)
          · first | exact ⟨c3, c4⟩ | (simp (maxDischargeDepth := 6) [go_sem, *]; done)
          clear hK K
          (try simp only [Act.put, List.setIfInBounds_toArray, List.set_cons_zero, List.set_cons_succ])
          refine wpAnyH_ready (rs := [7]) (by kernel_rfl) (by simp) ?_
          refine AllReadyH.cons (by rw [List.getElem?_toArray]; rfl) (fun K hK => ?_) AllReadyH.nil
          go_simp
          refine (CE4 _).mono ?_; rintro e w' ⟨rfl, rfl⟩
          (try go_wp2_with fail)
          refine hK.out _ _ ?_ (fun hHeld => ?_)
          · first | exact ⟨c3, c4⟩ | (simp (maxDischargeDepth := 6) [go_sem, *]; done)
          clear hK K
          (try simp only [Act.put, List.setIfInBounds_toArray, List.set_cons_zero, List.set_cons_succ])
          refine wpAnyH_take (i := 8) (v := ?_) (by rw [List.getElem?_toArray]; rfl) (by kernel_rfl) (by kernel_rfl) (by kernel_rfl) (by intro _ _ _ h; exact h) (Or.inl ⟨by rfl, ?_⟩) (by assumption) ?_
          rotate_left
          · (intro w hSw; (try dsimp only at hSw); go_simp; all_goals with_reducible rfl)
          (try simp only [Act.put, List.setIfInBounds_toArray, List.set_cons_zero, List.set_cons_succ])
          refine wpAnyH_take (i := 9) (v := ?_) (by rw [List.getElem?_toArray]; rfl) (by kernel_rfl) (by kernel_rfl) (by kernel_rfl) (by intro _ _ _ h; exact h) (Or.inl ⟨by rfl, ?_⟩) (by assumption) ?_
          rotate_left
          · (intro w hSw; (try dsimp only at hSw); go_simp; all_goals with_reducible rfl)
          (try simp only [Act.put, List.setIfInBounds_toArray, List.set_cons_zero, List.set_cons_succ])
          refine wpAnyH_ready (rs := [10]) (by kernel_rfl) (by simp) ?_
          refine AllReadyH.cons (by rw [List.getElem?_toArray]; rfl) (fun K hK => ?_) AllReadyH.nil
          go_simp
          refine hK.out _ _ ?_ (fun hHeld => ?_)
          · first | exact ⟨c3, c4⟩ | (simp (maxDischargeDepth := 6) [go_sem, *]; done)
          clear hK K
          (try simp only [Act.put, List.setIfInBounds_toArray, List.set_cons_zero, List.set_cons_succ])
          refine wpAnyH_done (by kernel_rfl) ?_ _
          go_wp2_with fail
          refine (CK _).mono ?_
          rintro e w2 ⟨rfl, hb⟩
          have MX := (Box8.drew (Box8.new wr 2 x0 x1 x2 e3 e4 0 ⟨#[]⟩ 27)).below hb
          replace R := (Box8.drew (R.alloc (.cells #[.int .i64 2, .int .i64 x0, .int .i64 x1, .int .i64 x2, .int .i64 e3, .int .i64 e4, .int .i64 0, .string ⟨#[]⟩] 27))).below hb
          replace N := (Box8.drew (N.alloc (.cells #[.int .i64 2, .int .i64 x0, .int .i64 x1, .int .i64 x2, .int .i64 e3, .int .i64 e4, .int .i64 0, .string ⟨#[]⟩] 27))).below hb
          replace T := (Thaw8.drew (T.alloc (by omega) (.cells #[.int .i64 2, .int .i64 x0, .int .i64 x1, .int .i64 x2, .int .i64 e3, .int .i64 e4, .int .i64 0, .string ⟨#[]⟩] 27))).belowB hb (by simp; omega)
          replace B := (Below.drew (B.alloc B.size (.cells #[.int .i64 2, .int .i64 x0, .int .i64 x1, .int .i64 x2, .int .i64 e3, .int .i64 e4, .int .i64 0, .string ⟨#[]⟩] 27))).trans (hb.mono (by simp; omega))
          clear a0 a1 a2 a3 a4 a5 a6 a7 a8 b0 b1 b2 b3 b4 b5 b6 b7 b8 t0 t1 t2 t3 t4 t5 t6 t7
          obtain ⟨a0, a1, a2, a3, a4, a5, a6, a7, a8⟩ := id R; obtain ⟨b0, b1, b2, b3, b4, b5, b6, b7, b8⟩ := id N; obtain ⟨t0, t1, t2, t3, t4, t5, t6, t7⟩ := id T
          obtain ⟨m0, m1, m2, m3, m4, m5, m6, m7, m8⟩ := id MX
          clear hb CK
          go_wp2_with fail
          have BF : Below w.heap.size w ((((((((w2.setCell ⟨w.heap.size, 0, none⟩ (.int .i64 2)).setCell ⟨w.heap.size, 1, none⟩ (.int .i64 x0)).setCell ⟨w.heap.size, 2, none⟩ (.int .i64 x1)).setCell ⟨w.heap.size, 3, none⟩ (.int .i64 x2)).setCell ⟨w.heap.size, 4, none⟩ (.int .i64 e3)).setCell ⟨w.heap.size, 5, none⟩ (.int .i64 e4)).setCell ⟨w.heap.size, 6, none⟩ (.int .i64 0)).setCell ⟨w.heap.size, 7, none⟩ (.string ⟨#[]⟩)) := ((((((((B.setCell (Nat.le_refl _) _).setCell (Nat.le_refl _) _).setCell (Nat.le_refl _) _).setCell (Nat.le_refl _) _).setCell (Nat.le_refl _) _).setCell (Nat.le_refl _) _).setCell (Nat.le_refl _) _).setCell (Nat.le_refl _) _)
          have RF := ((((((((R.set0 2).set1 x0).set2 x1).set3 x2).set4 e3).set5 e4).set6 0).set7 ⟨#[]⟩)
          clear a0 a1 a2 a3 a4 a5 a6 a7 a8 b0 b1 b2 b3 b4 b5 b6 b7 b8 t0 t1 t2 t3 t4 t5 t6 t7 R N T m0 m1 m2 m3 m4 m5 m6 m7 m8 MX
          generalize ((((((((w2.setCell ⟨w.heap.size, 0, none⟩ (.int .i64 2)).setCell ⟨w.heap.size, 1, none⟩ (.int .i64 x0)).setCell ⟨w.heap.size, 2, none⟩ (.int .i64 x1)).setCell ⟨w.heap.size, 3, none⟩ (.int .i64 x2)).setCell ⟨w.heap.size, 4, none⟩ (.int .i64 e3)).setCell ⟨w.heap.size, 5, none⟩ (.int .i64 e4)).setCell ⟨w.heap.size, 6, none⟩ (.int .i64 0)).setCell ⟨w.heap.size, 7, none⟩ (.string ⟨#[]⟩)) = vf at *
          obtain ⟨a0, a1, a2, a3, a4, a5, a6, a7, a8⟩ := RF
          refine bodyPost_ret (v := .tuple #[.agg #[.int .i64 2, .int .i64 x0, .int .i64 x1, .int .i64 x2, .int .i64 e3, .int .i64 e4, .int .i64 0, .string ⟨#[]⟩], .int .i64 0]) (by simp (maxDischargeDepth := 6) [results, Try.results14, go_sem, a1, a2, a3, a4, a5, a6, a7, a8]) rfl ?_
          exact ⟨by rw [HU.out]; rfl, BF⟩
set_option maxRecDepth 100000 in
set_option maxHeartbeats 8000000 in
theorem specUnpack_k3 (b off n c : Nat) (f : Nat → Int) (w : World) (hn : 2 ≤ n) (hm20 : n ≤ 1048576) (hc : n ≤ c) (hcm : c ≤ maxLen) (hf : Byts w b off n f) (hr : ∀ i, i < n → 0 ≤ f i ∧ f i ≤ 255) (h : chk f (n - 1) = f (n - 1)) (hk : f 0 = 3) :
    Calls Try.prog 14 #[.slice (some ⟨b, off, none⟩) n c] w fun e w' => e = .returned (uv (unp f n)) ∧ Below w.heap.size w w' := by
  have HUN : Hid (unp f n = unp3 f (n - 1)) := by rw [Hid, unp, if_neg (by omega), if_neg (by rw [h]; simp), if_neg (by omega)]; simp [hk]
  obtain ⟨i0, hi0, hz0, hz1, hz2⟩ := info_parts infoInt
  have z1 : (w.alloc (.cells #[.int .i64 0, .int .i64 0, .int .i64 0, .int .i64 0, .int .i64 0, .int .i64 0, .int .i64 0, .string ⟨#[]⟩] 27)).heap.size = w.heap.size + 1 := by simp
  have R := (Box8.new w 0 0 0 0 0 0 0 ⟨#[]⟩ 27).alloc (.cells #[.int .i64 0, .int .i64 0, .int .i64 0, .int .i64 0, .int .i64 0, .int .i64 0, .int .i64 0, .string ⟨#[]⟩] 27)
  have T := (Thaw8.new w 0 0 0 0 0 0 0 ⟨#[]⟩ 27).alloc (by simp) (.cells #[.int .i64 0, .int .i64 0, .int .i64 0, .int .i64 0, .int .i64 0, .int .i64 0, .int .i64 0, .string ⟨#[]⟩] 27)
  have N := Box8.new (w.alloc (.cells #[.int .i64 0, .int .i64 0, .int .i64 0, .int .i64 0, .int .i64 0, .int .i64 0, .int .i64 0, .string ⟨#[]⟩] 27)) 0 0 0 0 0 0 0 ⟨#[]⟩ 27
  rw [z1] at N
  have B := ((Below.refl w.heap.size w).alloc (Nat.le_refl _) (.cells #[.int .i64 0, .int .i64 0, .int .i64 0, .int .i64 0, .int .i64 0, .int .i64 0, .int .i64 0, .string ⟨#[]⟩] 27)).alloc (by simp) (.cells #[.int .i64 0, .int .i64 0, .int .i64 0, .int .i64 0, .int .i64 0, .int .i64 0, .int .i64 0, .string ⟨#[]⟩] 27)
  clear z1
  have HF0 : Hid (Byts w b off n f) := hf
  have D0 := hf.below B hf.1
  have HD : Hid (Byts ((w.alloc (.cells #[.int .i64 0, .int .i64 0, .int .i64 0, .int .i64 0, .int .i64 0, .int .i64 0, .int .i64 0, .string ⟨#[]⟩] 27)).alloc (.cells #[.int .i64 0, .int .i64 0, .int .i64 0, .int .i64 0, .int .i64 0, .int .i64 0, .int .i64 0, .string ⟨#[]⟩] 27)) b off n f) := D0
  have bw : b < w.heap.size := hf.1
  have CC := fun (w' : World) (hs : SrcB w' (some ⟨b, off, none⟩) (n - 1) f) => specCheck8_any (some ⟨b, off, none⟩) (n - 1) c f w' (by unfold maxLen at hcm ⊢; omega) hs (fun i hi => hr i (by omega))
  have hlast := hr (n - 1) (by omega)
  have l0 := hlast.1
  have l1 := hlast.2
  have hfirst := hr 0 (by omega)
  have g0 := hfirst.1
  have g1 := hfirst.2
  unfold maxLen at hcm
  have hi2 : ¬ (n : Int) < 2 := by omega
  have hwn : IntKind.i64.wrap ((n : Int) - 1) = (n : Int) - 1 := Go.IntWalk.i64_in _ ⟨by omega, by omega⟩
  have hsb : 0 ≤ (n : Int) - 1 ∧ (n : Int) - 1 ≤ (c : Int) := ⟨by omega, by omega⟩
  have hn1 : (1 : Int) ≤ (n : Int) := by omega
  have hib : 0 ≤ (n : Int) - 1 ∧ (n : Int) - 1 < (n : Int) := ⟨by omega, by omega⟩
  have htn : ((n : Int) - 1).toNat = n - 1 := by omega
  have cl : ((w.alloc (.cells #[.int .i64 0, .int .i64 0, .int .i64 0, .int .i64 0, .int .i64 0, .int .i64 0, .int .i64 0, .string ⟨#[]⟩] 27)).alloc (.cells #[.int .i64 0, .int .i64 0, .int .i64 0, .int .i64 0, .int .i64 0, .int .i64 0, .int .i64 0, .string ⟨#[]⟩] 27)).cell? ⟨b, off + (n - 1), none⟩ = some (.int .u8 (f (n - 1))) := D0.2 (n - 1) (by omega)
  clear D0 hf hlast hfirst
  go_enter Try.func14, Try.ntmps14
  go_wp2_with fail
  generalize (w.alloc (.cells #[.int .i64 0, .int .i64 0, .int .i64 0, .int .i64 0, .int .i64 0, .int .i64 0, .int .i64 0, .string ⟨#[]⟩] 27)).alloc (.cells #[.int .i64 0, .int .i64 0, .int .i64 0, .int .i64 0, .int .i64 0, .int .i64 0, .int .i64 0, .string ⟨#[]⟩] 27) = v at *
  have HSD : Hid (SrcB v.drew (some ⟨b, off, none⟩) (n - 1) f) := (show SrcB v (some ⟨b, off, none⟩) (n - 1) f from .inr ⟨b, off, rfl, HD.out.1, fun i hi => HD.out.2 i (by omega)⟩)
  have hwl : IntKind.i64.wrap (f (n - 1)) = f (n - 1) := Go.IntWalk.i64_in _ ⟨by omega, by omega⟩
  have HRN : Hid (∀ i, i < n - 1 → 0 ≤ f i ∧ f i ≤ 255) := fun i hi => hr i (by omega)
  have hne : (chk f (n - 1) != f (n - 1)) = false := by simp [h]
  have cf : v.cell? ⟨b, off, none⟩ = some (.int .u8 3) := by rw [← hk]; exact HD.out.2 0 (by omega)
  have hn2 : 0 < n - 1 := by omega
  have hdk : decide ((1 : Int) ≤ 3 ∧ (3 : Int) ≤ 3) = true := by decide
  refine wp_region_held_drew (S := (fun w' => w'.cell? ⟨b, off + (n - 1), none⟩ = some (.int .u8 (f (n - 1))))) (by kernel_rfl) ?_ (fun hHeld => ?_)
  · first | exact cl | (simp (maxDischargeDepth := 6) [go_sem, *]; done)
  refine wpAnyH_take (i := 0) (v := ?_) (by rw [List.getElem?_toArray]; rfl) (by kernel_rfl) (by kernel_rfl) (by kernel_rfl) (by intro _ _ _ h; exact h) (Or.inl ⟨by rfl, ?_⟩) (by assumption) ?_
  rotate_left
  · (intro w hSw; (try dsimp only at hSw); go_simp; all_goals with_reducible rfl)
  (try simp only [Act.put, List.setIfInBounds_toArray, List.set_cons_zero, List.set_cons_succ])
  refine wpAnyH_take (i := 2) (v := ?_) (by rw [List.getElem?_toArray]; rfl) (by kernel_rfl) (by kernel_rfl) (by kernel_rfl) (by intro _ _ _ h; exact h) (Or.inl ⟨by rfl, ?_⟩) (by assumption) ?_
  rotate_left
  · (intro w hSw; (try dsimp only at hSw); go_simp; all_goals with_reducible rfl)
  (try simp only [Act.put, List.setIfInBounds_toArray, List.set_cons_zero, List.set_cons_succ])
  refine wpAnyH_take (i := 3) (v := ?_) (by rw [List.getElem?_toArray]; rfl) (by kernel_rfl) (by kernel_rfl) (by kernel_rfl) (by intro _ _ _ h; exact h) (Or.inl ⟨by rfl, ?_⟩) (by assumption) ?_
  rotate_left
  · (intro w hSw; (try dsimp only at hSw); go_simp; all_goals with_reducible rfl)
  (try simp only [Act.put, List.setIfInBounds_toArray, List.set_cons_zero, List.set_cons_succ])
  refine wpAnyH_take (i := 4) (v := ?_) (by rw [List.getElem?_toArray]; rfl) (by kernel_rfl) (by kernel_rfl) (by kernel_rfl) (by intro _ _ _ h; exact h) (Or.inl ⟨by rfl, ?_⟩) (by assumption) ?_
  rotate_left
  · (intro w hSw; (try dsimp only at hSw); go_simp; all_goals with_reducible rfl)
  (try simp only [Act.put, List.setIfInBounds_toArray, List.set_cons_zero, List.set_cons_succ])
  refine wpAnyH_take (i := 5) (v := ?_) (by rw [List.getElem?_toArray]; rfl) (by kernel_rfl) (by kernel_rfl) (by kernel_rfl) (by intro _ _ _ h; exact h) (Or.inl ⟨by rfl, ?_⟩) (by assumption) ?_
  rotate_left
  · (intro w hSw; (try dsimp only at hSw); go_simp; all_goals with_reducible rfl)
  (try simp only [Act.put, List.setIfInBounds_toArray, List.set_cons_zero, List.set_cons_succ])
  refine wpAnyH_take (i := 6) (v := ?_) (by rw [List.getElem?_toArray]; rfl) (by kernel_rfl) (by kernel_rfl) (by kernel_rfl) (by intro _ _ _ h; exact h) (Or.inl ⟨by rfl, ?_⟩) (by assumption) ?_
  rotate_left
  · (intro w hSw; (try dsimp only at hSw); go_simp; all_goals with_reducible rfl)
  (try simp only [Act.put, List.setIfInBounds_toArray, List.set_cons_zero, List.set_cons_succ])
  refine wpAnyH_take (i := 7) (v := ?_) (by rw [List.getElem?_toArray]; rfl) (by kernel_rfl) (by kernel_rfl) (by kernel_rfl) (by intro _ _ _ h; exact h) (Or.inl ⟨by rfl, ?_⟩) (by assumption) ?_
  rotate_left
  · (intro w hSw; (try dsimp only at hSw); go_simp; all_goals with_reducible rfl)
  (try simp only [Act.put, List.setIfInBounds_toArray, List.set_cons_zero, List.set_cons_succ])
  refine wpAnyH_take (i := 8) (v := ?_) (by rw [List.getElem?_toArray]; rfl) (by kernel_rfl) (by kernel_rfl) (by kernel_rfl) (by intro _ _ _ h; exact h) (Or.inl ⟨by rfl, ?_⟩) (by assumption) ?_
  rotate_left
  · (intro w hSw; (try dsimp only at hSw); go_simp; all_goals with_reducible rfl)
  (try simp only [Act.put, List.setIfInBounds_toArray, List.set_cons_zero, List.set_cons_succ])
  refine wpAnyH_ready (rs := [1]) (by kernel_rfl) (by simp) ?_
  refine AllReadyH.cons (by rw [List.getElem?_toArray]; rfl) (fun K hK => ?_) AllReadyH.nil
  go_simp
  refine (CC _ HSD.out).mono ?_; rintro e w' ⟨rfl, rfl⟩
  (try go_wp2_with fail)
  refine hK.out _ _ ?_ (fun hHeld => ?_)
  · first | exact cl | (simp (maxDischargeDepth := 6) [go_sem, *]; done)
  clear hK K
  (try simp only [Act.put, List.setIfInBounds_toArray, List.set_cons_zero, List.set_cons_succ])
  refine wpAnyH_take (i := 9) (v := ?_) (by rw [List.getElem?_toArray]; rfl) (by kernel_rfl) (by kernel_rfl) (by kernel_rfl) (by intro _ _ _ h; exact h) (Or.inl ⟨by rfl, ?_⟩) (by assumption) ?_
  rotate_left
  · (intro w hSw; (try dsimp only at hSw); go_simp; all_goals with_reducible rfl)
  (try simp only [Act.put, List.setIfInBounds_toArray, List.set_cons_zero, List.set_cons_succ])
  refine wpAnyH_done (by kernel_rfl) ?_ _
  clear hr h hk CC HSD hHeld g0 g1
  go_wp2_with fail
  refine (l1In_any _ _ _ _).mono ?_
  rintro e w' ⟨rfl, rfl⟩
  rw [hdk]
  go_wp2_with fail
  have hb2 : w.heap.size + 2 ≤ v.heap.size := N.1
  have O0 : ((v.alloc (.cells #[.int .i64 0, .int .i64 3, .int .i64 5, .int .i64 3] 3)).alloc (.cells #[] 3)).ownsRow (w.heap.size + 2) 3 1 (.slice (some ⟨v.heap.size + 1, 0, none⟩) 0 0) 0 (vls f (n - 1) 0) := by
    have q := World.ownsRow_made (e := 3) (size := 1) (base := w.heap.size + 2) (v.alloc (.cells #[.int .i64 0, .int .i64 3, .int .i64 5, .int .i64 3] 3)) #[] 0 (by simp; omega) (by simp [maxLen]) (by simp)
    rw [World.size_alloc] at q
    exact q
  replace O0 := World.ownsRow.drew O0
  have R0 := Box8.drew ((R.alloc (.cells #[.int .i64 0, .int .i64 3, .int .i64 5, .int .i64 3] 3)).alloc (.cells #[] 3))
  have N0 := Box8.drew ((N.alloc (.cells #[.int .i64 0, .int .i64 3, .int .i64 5, .int .i64 3] 3)).alloc (.cells #[] 3))
  have T0 := Thaw8.drew ((T.alloc R.1 (.cells #[.int .i64 0, .int .i64 3, .int .i64 5, .int .i64 3] 3)).alloc (R.alloc (.cells #[.int .i64 0, .int .i64 3, .int .i64 5, .int .i64 3] 3)).1 (.cells #[] 3))
  have BA := (Below.refl v.heap.size v).alloc (Nat.le_refl _) (.cells #[.int .i64 0, .int .i64 3, .int .i64 5, .int .i64 3] 3)
  have BA2 := BA.alloc BA.size (.cells #[] 3)
  have D0 := Byts.drew (HD.out.below BA2 HD.out.1)
  have B0 := Below.drew (B.trans (BA2.mono B.size))
  clear R N T B BA BA2 cl cf HD HF0
  generalize ((v.alloc (.cells #[.int .i64 0, .int .i64 3, .int .i64 5, .int .i64 3] 3)).alloc (.cells #[] 3)).drew = v5 at *
  have HO0 : Hid (v5.ownsRow (w.heap.size + 2) 3 1 (.slice (some ⟨v.heap.size + 1, 0, none⟩) 0 0) 0 (vls f (n - 1) 0)) := O0
  clear O0
  go_loopw [8, 9, 10] (fun nv av iv wr => ∃ j : Nat, j ≤ 3 ∧ iv = .int .i64 j ∧ av = .int .i64 (ats f (n - 1) j) ∧ okA f (n - 1) j = true ∧ wr.ownsRow (w.heap.size + 2) 3 1 nv j (vls f (n - 1) j) ∧ Box8 wr w.heap.size 0 0 0 0 0 0 0 ⟨#[]⟩ ∧ Thaw8 wr w.heap.size ∧ Box8 wr (w.heap.size + 1) 0 0 0 0 0 0 0 ⟨#[]⟩ ∧ Byts wr b off n f ∧ Below w.heap.size w wr) (fun _ _ iv _ => 3 - (intOf iv).toNat)
  case atStart => exact ⟨0, Nat.zero_le _, rfl, rfl, rfl, HO0.out, R0, T0, N0, D0, B0⟩
  case round =>
    obtain ⟨j, hj, rfl, rfl, hok, O, R, T, N, D, B⟩ := hrel
    clear HO0 R0 T0 N0 D0 B0
    have HOK : Hid (okA f (n - 1) j = true) := hok
    have HO : Hid (wr.ownsRow (w.heap.size + 2) 3 1 u8 j (vls f (n - 1) j)) := O
    have HD : Hid (Byts wr b off n f) := D
    clear hok O D
    by_cases hlt : j < 3
    · have hli : (j : Int) < 3 := by omega
      have CG := specGetNum_any (some ⟨b, off, none⟩) (n - 1) c (ats f (n - 1) j) f wr (by unfold maxLen; omega) (.inr ⟨b, off, rfl, HD.out.1, fun i hi => HD.out.2 i (by omega)⟩) HRN.out
      have EV : val f (n - 1) j = (getI f (n - 1) (ats f (n - 1) j)).1 := rfl
      have EA : ats f (n - 1) (j + 1) = (getI f (n - 1) (ats f (n - 1) j)).2.1 := rfl
      rw [← EV, ← EA] at CG
      have HVA := vls_add f (n - 1) j
      cases hfl : fldC f (n - 1) (ats f (n - 1) j)
      · have HU : Hid (unp f n = (4, zT)) := by rw [Hid, HUN.out, unp3, okA_no hfl 3 hlt]; rfl
        have hcase : (getI f (n - 1) (ats f (n - 1) j)).2.2 = false ∨ ((getI f (n - 1) (ats f (n - 1) j)).2.2 = true ∧ 4000000000000 < val f (n - 1) j) := by
          rw [EV]
          simp only [fldC] at hfl
          cases q : (getI f (n - 1) (ats f (n - 1) j)).2.2
          · exact .inl rfl
          · rw [q] at hfl; simp at hfl; exact .inr ⟨rfl, by omega⟩
        clear EV EA HVA hfl HUN HOK HO
        generalize (getI f (n - 1) (ats f (n - 1) j)).2.2 = ok at *
        generalize val f (n - 1) j = x at *
        generalize ats f (n - 1) (j + 1) = nx at *
        generalize ats f (n - 1) j = at0 at *
        rcases hcase with rfl | ⟨rfl, hgt⟩
        all_goals
          obtain ⟨a0, a1, a2, a3, a4, a5, a6, a7, a8⟩ := id R; obtain ⟨b0, b1, b2, b3, b4, b5, b6, b7, b8⟩ := id N; obtain ⟨t0, t1, t2, t3, t4, t5, t6, t7⟩ := id T
          go_wp2_with fail
          refine CG.mono ?_
          rintro e w' ⟨rfl, rfl⟩
          clear CG
          go_wp2_with fail
          have BF : Below w.heap.size w ((((((((wr.setCell ⟨w.heap.size, 0, none⟩ (.int .i64 0)).setCell ⟨w.heap.size, 1, none⟩ (.int .i64 0)).setCell ⟨w.heap.size, 2, none⟩ (.int .i64 0)).setCell ⟨w.heap.size, 3, none⟩ (.int .i64 0)).setCell ⟨w.heap.size, 4, none⟩ (.int .i64 0)).setCell ⟨w.heap.size, 5, none⟩ (.int .i64 0)).setCell ⟨w.heap.size, 6, none⟩ (.int .i64 0)).setCell ⟨w.heap.size, 7, none⟩ (.string ⟨#[]⟩)) := ((((((((B.setCell (Nat.le_refl _) _).setCell (Nat.le_refl _) _).setCell (Nat.le_refl _) _).setCell (Nat.le_refl _) _).setCell (Nat.le_refl _) _).setCell (Nat.le_refl _) _).setCell (Nat.le_refl _) _).setCell (Nat.le_refl _) _)
          have RF := ((((((((R.set0 0).set1 0).set2 0).set3 0).set4 0).set5 0).set6 0).set7 ⟨#[]⟩)
          clear a0 a1 a2 a3 a4 a5 a6 a7 a8 b0 b1 b2 b3 b4 b5 b6 b7 b8 t0 t1 t2 t3 t4 t5 t6 t7 R N T
          generalize ((((((((wr.setCell ⟨w.heap.size, 0, none⟩ (.int .i64 0)).setCell ⟨w.heap.size, 1, none⟩ (.int .i64 0)).setCell ⟨w.heap.size, 2, none⟩ (.int .i64 0)).setCell ⟨w.heap.size, 3, none⟩ (.int .i64 0)).setCell ⟨w.heap.size, 4, none⟩ (.int .i64 0)).setCell ⟨w.heap.size, 5, none⟩ (.int .i64 0)).setCell ⟨w.heap.size, 6, none⟩ (.int .i64 0)).setCell ⟨w.heap.size, 7, none⟩ (.string ⟨#[]⟩)) = vf at *
          obtain ⟨a0, a1, a2, a3, a4, a5, a6, a7, a8⟩ := RF
          refine bodyPost_ret (v := .tuple #[.agg #[.int .i64 0, .int .i64 0, .int .i64 0, .int .i64 0, .int .i64 0, .int .i64 0, .int .i64 0, .string ⟨#[]⟩], .int .i64 4]) (by simp (maxDischargeDepth := 6) [results, Try.results14, go_sem, a1, a2, a3, a4, a5, a6, a7, a8]) rfl ?_
          exact ⟨by rw [HU.out]; rfl, BF⟩
      · have hfc : (getI f (n - 1) (ats f (n - 1) j)).2.2 = true ∧ val f (n - 1) j ≤ 4000000000000 := by
          rw [EV]; simp only [fldC, Bool.and_eq_true, decide_eq_true_eq] at hfl; exact hfl
        have HOK2 : Hid (okA f (n - 1) (j + 1) = true) := by rw [Hid, okA, HOK.out, hfl]; rfl
        rw [hfc.1] at CG
        have hle := hfc.2
        have hO : wr.ownsRow (w.heap.size + 2) 3 1 u8 j (vls f (n - 1) j) := HO.out
        have hwz : w.heap.size + 2 ≤ wr.heap.size := N.1
        clear EV EA hfl HUN HOK hfc
        generalize hx : val f (n - 1) j = x at *
        generalize hnx : ats f (n - 1) (j + 1) = nx at *
        have HNX : Hid (ats f (n - 1) (j + 1) = nx) := hnx
        clear hx hnx
        go_wp2_with fail
        refine CG.mono ?_
        rintro e w' ⟨rfl, rfl⟩
        clear CG
        have A := (Below.refl wr.heap.size wr).alloc (Nat.le_refl _) (.cells #[.int .i64 x] 3)
        go_wp2_with (at_builtin; refine wpList_append_own _ rfl _ _ 55 rfl (w.heap.size + 2) 3 i0 (.int .i64 0) 1 8 Try.underlying55 hi0 hz0 hz1 hz2 rfl (by decide) _ _ _ rfl (World.ownsRow.alloc hO _) ⟨wr.heap.size, 0, none⟩ 1 1 [.int .i64 x] rfl rfl (fun q u hq => int_at wr _ 3 q u hq) (by intro u hu; simp at hu; subst hu; rfl) (by unfold maxLen; omega) (by omega) (by simp; omega) ?_; intro v' wn hown' hgrow _)
        have G := grownB_below (World.ownsRow.alloc hO _) hgrow (by simp; omega)
        replace B := (B.trans (A.mono B.size)).trans (G.mono (by omega))
        replace R := (R.alloc (.cells #[.int .i64 x] 3)).belowB G (by omega)
        replace N := (N.alloc (.cells #[.int .i64 x] 3)).belowB G (by omega)
        replace T := (T.alloc (by omega) (.cells #[.int .i64 x] 3)).belowB G (by omega)
        have HD2 : Hid (Byts wn b off n f) := (HD.out.below A HD.out.1).below G (by omega)
        have HO2 : Hid (wn.ownsRow (w.heap.size + 2) 3 1 v' (j + 1) (vls f (n - 1) (j + 1))) := by rw [Hid, HVA]; exact hown'
        clear hown' hgrow G A hO HO HD
        go_wp2_with fail
        go_roundw
        case rel => exact ⟨j + 1, by omega, by go_num, by rw [HNX.out], HOK2.out, HO2.out, R, T, N, HD2.out, B⟩
        case measure => simp [intOf]; omega
    · have hj' : j = 3 := by omega
      subst hj'
      obtain ⟨g, cg, rfl, hg, HV⟩ := own_val HO.out (by omega)
      have hgl : g < wr.heap.size := (HO.out.lt g rfl).2
      have HB0 : Hid (∀ i, i < n - 1 → 0 ≤ f i) := fun i hi => (HRN.out i hi).1
      have hats := ats_bd HB0.out HOK.out
      have ha1 := hats.1
      have ha2 := hats.2 (by omega)
      have HUK : Hid (unp f n = unp3 f (n - 1)) := HUN.out
      have c0 := HV 0 (by omega)
      have vb0 := val_bd HB0.out HOK.out (j := 0) (by omega)
      have c1 := HV 1 (by omega)
      have vb1 := val_bd HB0.out HOK.out (j := 1) (by omega)
      have c2 := HV 2 (by omega)
      have vb2 := val_bd HB0.out HOK.out (j := 2) (by omega)
      have HUF : Hid (unp f n = if okA f (n - 1) 3 then _ else (4, zT)) := HUK.out
      rw [HOK.out] at HUF
      clear HUK HUN HV hats HO HB0 HRN HOK
      generalize val f (n - 1) 0 = x0 at *
      generalize val f (n - 1) 1 = x1 at *
      generalize val f (n - 1) 2 = x2 at *
      generalize ats f (n - 1) 3 = at0 at *
      obtain ⟨X, rfl⟩ := Int.eq_ofNat_of_zero_le (show 0 ≤ at0 by omega)
      obtain ⟨NN, rfl⟩ := Int.eq_ofNat_of_zero_le vb2.1
      have HUG0 : Hid (unp f n = if ((n - 1 : Nat) : Int) - X < NN then (4, zT) else fin (n - 1) (3, x0, 0, 0, 0, 0, x1, strF f (X : Int).toNat (NN : Int).toNat) ((X : Int) + NN)) := HUF.out
      have hsub : ((n : Int) - 1) - X < NN ↔ ((n - 1 : Nat) : Int) - X < NN := by omega
      by_cases hfew : ((n - 1 : Nat) : Int) - X < NN
      · have HU : Hid (unp f n = (4, zT)) := by rw [Hid, HUG0.out, if_pos hfew]
        clear HUF HUG0 HD
        obtain ⟨a0, a1, a2, a3, a4, a5, a6, a7, a8⟩ := id R; obtain ⟨b0, b1, b2, b3, b4, b5, b6, b7, b8⟩ := id N; obtain ⟨t0, t1, t2, t3, t4, t5, t6, t7⟩ := id T
        go_wp2_with fail
        have BF : Below w.heap.size w ((((((((wr.setCell ⟨w.heap.size, 0, none⟩ (.int .i64 0)).setCell ⟨w.heap.size, 1, none⟩ (.int .i64 0)).setCell ⟨w.heap.size, 2, none⟩ (.int .i64 0)).setCell ⟨w.heap.size, 3, none⟩ (.int .i64 0)).setCell ⟨w.heap.size, 4, none⟩ (.int .i64 0)).setCell ⟨w.heap.size, 5, none⟩ (.int .i64 0)).setCell ⟨w.heap.size, 6, none⟩ (.int .i64 0)).setCell ⟨w.heap.size, 7, none⟩ (.string ⟨#[]⟩)) := ((((((((B.setCell (Nat.le_refl _) _).setCell (Nat.le_refl _) _).setCell (Nat.le_refl _) _).setCell (Nat.le_refl _) _).setCell (Nat.le_refl _) _).setCell (Nat.le_refl _) _).setCell (Nat.le_refl _) _).setCell (Nat.le_refl _) _)
        have RF := ((((((((R.set0 0).set1 0).set2 0).set3 0).set4 0).set5 0).set6 0).set7 ⟨#[]⟩)
        replace BF := BF.alloc BF.size (.cells #[.int .i64 3, .int .i64 x0, .int .i64 0, .int .i64 0, .int .i64 0, .int .i64 0, .int .i64 x1, .string ⟨#[]⟩] 27)
        replace RF := RF.alloc (.cells #[.int .i64 3, .int .i64 x0, .int .i64 0, .int .i64 0, .int .i64 0, .int .i64 0, .int .i64 x1, .string ⟨#[]⟩] 27)
        clear a0 a1 a2 a3 a4 a5 a6 a7 a8 b0 b1 b2 b3 b4 b5 b6 b7 b8 t0 t1 t2 t3 t4 t5 t6 t7 R N T
        generalize (((((((((wr.setCell ⟨w.heap.size, 0, none⟩ (.int .i64 0)).setCell ⟨w.heap.size, 1, none⟩ (.int .i64 0)).setCell ⟨w.heap.size, 2, none⟩ (.int .i64 0)).setCell ⟨w.heap.size, 3, none⟩ (.int .i64 0)).setCell ⟨w.heap.size, 4, none⟩ (.int .i64 0)).setCell ⟨w.heap.size, 5, none⟩ (.int .i64 0)).setCell ⟨w.heap.size, 6, none⟩ (.int .i64 0)).setCell ⟨w.heap.size, 7, none⟩ (.string ⟨#[]⟩)).alloc (.cells #[.int .i64 3, .int .i64 x0, .int .i64 0, .int .i64 0, .int .i64 0, .int .i64 0, .int .i64 x1, .string ⟨#[]⟩] 27)) = vf at *
        obtain ⟨a0, a1, a2, a3, a4, a5, a6, a7, a8⟩ := RF
        refine bodyPost_ret (v := .tuple #[.agg #[.int .i64 0, .int .i64 0, .int .i64 0, .int .i64 0, .int .i64 0, .int .i64 0, .int .i64 0, .string ⟨#[]⟩], .int .i64 4]) (by simp (maxDischargeDepth := 6) [results, Try.results14, go_sem, a1, a2, a3, a4, a5, a6, a7, a8]) rfl ?_
        exact ⟨by rw [HU.out]; rfl, BF⟩
      · have HUG : Hid (unp f n = fin (n - 1) (3, x0, 0, 0, 0, 0, x1, strF f X NN) ((X : Int) + NN)) := by rw [Hid, HUG0.out, if_neg hfew]; rfl
        have hfew' : ¬ (n : Int) - 1 - X < NN := by omega
        have hxl : X + NN ≤ n - 1 := by omega
        have HCV : Hid ((convert 22 9 (.slice (some ⟨b, off + X, none⟩) NN (c - X))).run Try.prog (wr.alloc (.cells #[.int .i64 3, .int .i64 x0, .int .i64 0, .int .i64 0, .int .i64 0, .int .i64 0, .int .i64 x1, .string ⟨#[]⟩] 27)) = .ok (.string (strF f X NN)) (wr.alloc (.cells #[.int .i64 3, .int .i64 x0, .int .i64 0, .int .i64 0, .int .i64 0, .int .i64 0, .int .i64 x1, .string ⟨#[]⟩] 27))) :=
          run_convert_bytes_arg (wr.alloc (.cells #[.int .i64 3, .int .i64 x0, .int .i64 0, .int .i64 0, .int .i64 0, .int .i64 0, .int .i64 x1, .string ⟨#[]⟩] 27)) 22 5 Try.underlying22 Try.underlying5 b (off + X) NN (c - X) ((List.range NN).map fun i => f (X + i)) (by simp) (fun i hi => by
            have q := (HD.out.below ((Below.refl wr.heap.size wr).alloc (Nat.le_refl _) (.cells #[.int .i64 3, .int .i64 x0, .int .i64 0, .int .i64 0, .int .i64 0, .int .i64 0, .int .i64 x1, .string ⟨#[]⟩] 27)) HD.out.1).2 (X + i) (by omega)
            rw [← Nat.add_assoc] at q
            rw [q]; simp [hi]) 9 Try.underlying9
        have hcv := HCV.out
        have hz24 : (strF f X NN).size = NN := by unfold strF; rw [strOfNums_size]; simp
        have hb1 : 0 ≤ (X : Int) + (NN : Int) ∧ (X : Int) + (NN : Int) ≤ (c : Int) := ⟨by omega, by omega⟩
        have htx : ((X : Int) + (NN : Int)).toNat = X + NN := by omega
        have hxn : X ≤ X + NN := by omega
        have hsubn : X + NN - X = NN := by omega
        have hce : (c = X) = False := by simp; omega
        generalize strF f X NN = sb at *
        clear HUF HUG0 HCV hsub hfew
        have hcast : ((n - 1 : Nat) : Int) = (n : Int) - 1 := by omega
        by_cases hlong : ((X : Int) + NN) < ((n - 1 : Nat) : Int)
        · have HU : Hid (unp f n = (6, zT)) := by rw [Hid, HUG.out]; exact fin_long hlong
          have hlong' : ((X : Int) + NN) < (n : Int) - 1 := by omega
          clear HUG HD
          obtain ⟨a0, a1, a2, a3, a4, a5, a6, a7, a8⟩ := id R; obtain ⟨b0, b1, b2, b3, b4, b5, b6, b7, b8⟩ := id N; obtain ⟨t0, t1, t2, t3, t4, t5, t6, t7⟩ := id T
          go_wp2_with fail
          have BF : Below w.heap.size w ((((((((wr.setCell ⟨w.heap.size, 0, none⟩ (.int .i64 0)).setCell ⟨w.heap.size, 1, none⟩ (.int .i64 0)).setCell ⟨w.heap.size, 2, none⟩ (.int .i64 0)).setCell ⟨w.heap.size, 3, none⟩ (.int .i64 0)).setCell ⟨w.heap.size, 4, none⟩ (.int .i64 0)).setCell ⟨w.heap.size, 5, none⟩ (.int .i64 0)).setCell ⟨w.heap.size, 6, none⟩ (.int .i64 0)).setCell ⟨w.heap.size, 7, none⟩ (.string ⟨#[]⟩)) := ((((((((B.setCell (Nat.le_refl _) _).setCell (Nat.le_refl _) _).setCell (Nat.le_refl _) _).setCell (Nat.le_refl _) _).setCell (Nat.le_refl _) _).setCell (Nat.le_refl _) _).setCell (Nat.le_refl _) _).setCell (Nat.le_refl _) _)
          have RF := ((((((((R.set0 0).set1 0).set2 0).set3 0).set4 0).set5 0).set6 0).set7 ⟨#[]⟩)
          replace BF := BF.alloc BF.size (.cells #[.int .i64 3, .int .i64 x0, .int .i64 0, .int .i64 0, .int .i64 0, .int .i64 0, .int .i64 x1, .string sb] 27)
          replace RF := RF.alloc (.cells #[.int .i64 3, .int .i64 x0, .int .i64 0, .int .i64 0, .int .i64 0, .int .i64 0, .int .i64 x1, .string sb] 27)
          clear a0 a1 a2 a3 a4 a5 a6 a7 a8 b0 b1 b2 b3 b4 b5 b6 b7 b8 t0 t1 t2 t3 t4 t5 t6 t7 R N T
          generalize (((((((((wr.setCell ⟨w.heap.size, 0, none⟩ (.int .i64 0)).setCell ⟨w.heap.size, 1, none⟩ (.int .i64 0)).setCell ⟨w.heap.size, 2, none⟩ (.int .i64 0)).setCell ⟨w.heap.size, 3, none⟩ (.int .i64 0)).setCell ⟨w.heap.size, 4, none⟩ (.int .i64 0)).setCell ⟨w.heap.size, 5, none⟩ (.int .i64 0)).setCell ⟨w.heap.size, 6, none⟩ (.int .i64 0)).setCell ⟨w.heap.size, 7, none⟩ (.string ⟨#[]⟩)).alloc (.cells #[.int .i64 3, .int .i64 x0, .int .i64 0, .int .i64 0, .int .i64 0, .int .i64 0, .int .i64 x1, .string sb] 27)) = vf at *
          obtain ⟨a0, a1, a2, a3, a4, a5, a6, a7, a8⟩ := RF
          refine bodyPost_ret (v := .tuple #[.agg #[.int .i64 0, .int .i64 0, .int .i64 0, .int .i64 0, .int .i64 0, .int .i64 0, .int .i64 0, .string ⟨#[]⟩], .int .i64 6]) (by simp (maxDischargeDepth := 6) [results, Try.results14, go_sem, a1, a2, a3, a4, a5, a6, a7, a8]) rfl ?_
          exact ⟨by rw [HU.out]; rfl, BF⟩
        · have hlong' : ¬ ((X : Int) + NN) < (n : Int) - 1 := by omega
          have CK := fun w' => specMsgOk_any 3 x0 0 0 0 0 x1 sb w' (by first | omega | decide)
          cases hmb : msgB 3 x0 0 0 0 0 x1 sb
          all_goals
            rw [hmb] at CK
          · have HU : Hid (unp f n = (5, zT)) := by rw [Hid, HUG.out]; exact fin_bad hlong hmb
            clear HUG HD hmb
            obtain ⟨a0, a1, a2, a3, a4, a5, a6, a7, a8⟩ := id R; obtain ⟨b0, b1, b2, b3, b4, b5, b6, b7, b8⟩ := id N; obtain ⟨t0, t1, t2, t3, t4, t5, t6, t7⟩ := id T
            go_wp2_with fail
            refine (CK _).mono ?_
            rintro e w2 ⟨rfl, hb⟩
            replace R := ((R.alloc (.cells #[.int .i64 3, .int .i64 x0, .int .i64 0, .int .i64 0, .int .i64 0, .int .i64 0, .int .i64 x1, .string sb] 27))).below hb
            replace N := ((N.alloc (.cells #[.int .i64 3, .int .i64 x0, .int .i64 0, .int .i64 0, .int .i64 0, .int .i64 0, .int .i64 x1, .string sb] 27))).below hb
            replace T := ((T.alloc (by omega) (.cells #[.int .i64 3, .int .i64 x0, .int .i64 0, .int .i64 0, .int .i64 0, .int .i64 0, .int .i64 x1, .string sb] 27))).belowB hb (by simp; omega)
            replace B := ((B.alloc B.size (.cells #[.int .i64 3, .int .i64 x0, .int .i64 0, .int .i64 0, .int .i64 0, .int .i64 0, .int .i64 x1, .string sb] 27))).trans (hb.mono (by simp; omega))
            clear a0 a1 a2 a3 a4 a5 a6 a7 a8 b0 b1 b2 b3 b4 b5 b6 b7 b8 t0 t1 t2 t3 t4 t5 t6 t7
            obtain ⟨a0, a1, a2, a3, a4, a5, a6, a7, a8⟩ := id R; obtain ⟨b0, b1, b2, b3, b4, b5, b6, b7, b8⟩ := id N; obtain ⟨t0, t1, t2, t3, t4, t5, t6, t7⟩ := id T
            clear hb CK
            go_wp2_with fail
            have BF : Below w.heap.size w ((((((((w2.setCell ⟨w.heap.size, 0, none⟩ (.int .i64 0)).setCell ⟨w.heap.size, 1, none⟩ (.int .i64 0)).setCell ⟨w.heap.size, 2, none⟩ (.int .i64 0)).setCell ⟨w.heap.size, 3, none⟩ (.int .i64 0)).setCell ⟨w.heap.size, 4, none⟩ (.int .i64 0)).setCell ⟨w.heap.size, 5, none⟩ (.int .i64 0)).setCell ⟨w.heap.size, 6, none⟩ (.int .i64 0)).setCell ⟨w.heap.size, 7, none⟩ (.string ⟨#[]⟩)) := ((((((((B.setCell (Nat.le_refl _) _).setCell (Nat.le_refl _) _).setCell (Nat.le_refl _) _).setCell (Nat.le_refl _) _).setCell (Nat.le_refl _) _).setCell (Nat.le_refl _) _).setCell (Nat.le_refl _) _).setCell (Nat.le_refl _) _)
            have RF := ((((((((R.set0 0).set1 0).set2 0).set3 0).set4 0).set5 0).set6 0).set7 ⟨#[]⟩)
            clear a0 a1 a2 a3 a4 a5 a6 a7 a8 b0 b1 b2 b3 b4 b5 b6 b7 b8 t0 t1 t2 t3 t4 t5 t6 t7 R N T
            generalize ((((((((w2.setCell ⟨w.heap.size, 0, none⟩ (.int .i64 0)).setCell ⟨w.heap.size, 1, none⟩ (.int .i64 0)).setCell ⟨w.heap.size, 2, none⟩ (.int .i64 0)).setCell ⟨w.heap.size, 3, none⟩ (.int .i64 0)).setCell ⟨w.heap.size, 4, none⟩ (.int .i64 0)).setCell ⟨w.heap.size, 5, none⟩ (.int .i64 0)).setCell ⟨w.heap.size, 6, none⟩ (.int .i64 0)).setCell ⟨w.heap.size, 7, none⟩ (.string ⟨#[]⟩)) = vf at *
            obtain ⟨a0, a1, a2, a3, a4, a5, a6, a7, a8⟩ := RF
            refine bodyPost_ret (v := .tuple #[.agg #[.int .i64 0, .int .i64 0, .int .i64 0, .int .i64 0, .int .i64 0, .int .i64 0, .int .i64 0, .string ⟨#[]⟩], .int .i64 5]) (by simp (maxDischargeDepth := 6) [results, Try.results14, go_sem, a1, a2, a3, a4, a5, a6, a7, a8]) rfl ?_
            exact ⟨by rw [HU.out]; rfl, BF⟩
          · have HU : Hid (unp f n = (0, (3, x0, 0, 0, 0, 0, x1, sb))) := by rw [Hid, HUG.out]; exact fin_well hlong hmb
            clear HUG HD hmb
            obtain ⟨a0, a1, a2, a3, a4, a5, a6, a7, a8⟩ := id R; obtain ⟨b0, b1, b2, b3, b4, b5, b6, b7, b8⟩ := id N; obtain ⟨t0, t1, t2, t3, t4, t5, t6, t7⟩ := id T
            go_wp2_with fail
            refine (CK _).mono ?_
            rintro e w2 ⟨rfl, hb⟩
            have MX := ((Box8.new wr 3 x0 0 0 0 0 x1 sb 27)).below hb
            replace R := ((R.alloc (.cells #[.int .i64 3, .int .i64 x0, .int .i64 0, .int .i64 0, .int .i64 0, .int .i64 0, .int .i64 x1, .string sb] 27))).below hb
            replace N := ((N.alloc (.cells #[.int .i64 3, .int .i64 x0, .int .i64 0, .int .i64 0, .int .i64 0, .int .i64 0, .int .i64 x1, .string sb] 27))).below hb
            replace T := ((T.alloc (by omega) (.cells #[.int .i64 3, .int .i64 x0, .int .i64 0, .int .i64 0, .int .i64 0, .int .i64 0, .int .i64 x1, .string sb] 27))).belowB hb (by simp; omega)
            replace B := ((B.alloc B.size (.cells #[.int .i64 3, .int .i64 x0, .int .i64 0, .int .i64 0, .int .i64 0, .int .i64 0, .int .i64 x1, .string sb] 27))).trans (hb.mono (by simp; omega))
            clear a0 a1 a2 a3 a4 a5 a6 a7 a8 b0 b1 b2 b3 b4 b5 b6 b7 b8 t0 t1 t2 t3 t4 t5 t6 t7
            obtain ⟨a0, a1, a2, a3, a4, a5, a6, a7, a8⟩ := id R; obtain ⟨b0, b1, b2, b3, b4, b5, b6, b7, b8⟩ := id N; obtain ⟨t0, t1, t2, t3, t4, t5, t6, t7⟩ := id T
            obtain ⟨m0, m1, m2, m3, m4, m5, m6, m7, m8⟩ := id MX
            clear hb CK
            go_wp2_with fail
            have BF : Below w.heap.size w ((((((((w2.setCell ⟨w.heap.size, 0, none⟩ (.int .i64 3)).setCell ⟨w.heap.size, 1, none⟩ (.int .i64 x0)).setCell ⟨w.heap.size, 2, none⟩ (.int .i64 0)).setCell ⟨w.heap.size, 3, none⟩ (.int .i64 0)).setCell ⟨w.heap.size, 4, none⟩ (.int .i64 0)).setCell ⟨w.heap.size, 5, none⟩ (.int .i64 0)).setCell ⟨w.heap.size, 6, none⟩ (.int .i64 x1)).setCell ⟨w.heap.size, 7, none⟩ (.string sb)) := ((((((((B.setCell (Nat.le_refl _) _).setCell (Nat.le_refl _) _).setCell (Nat.le_refl _) _).setCell (Nat.le_refl _) _).setCell (Nat.le_refl _) _).setCell (Nat.le_refl _) _).setCell (Nat.le_refl _) _).setCell (Nat.le_refl _) _)
            have RF := ((((((((R.set0 3).set1 x0).set2 0).set3 0).set4 0).set5 0).set6 x1).set7 sb)
            clear a0 a1 a2 a3 a4 a5 a6 a7 a8 b0 b1 b2 b3 b4 b5 b6 b7 b8 t0 t1 t2 t3 t4 t5 t6 t7 R N T m0 m1 m2 m3 m4 m5 m6 m7 m8 MX
            generalize ((((((((w2.setCell ⟨w.heap.size, 0, none⟩ (.int .i64 3)).setCell ⟨w.heap.size, 1, none⟩ (.int .i64 x0)).setCell ⟨w.heap.size, 2, none⟩ (.int .i64 0)).setCell ⟨w.heap.size, 3, none⟩ (.int .i64 0)).setCell ⟨w.heap.size, 4, none⟩ (.int .i64 0)).setCell ⟨w.heap.size, 5, none⟩ (.int .i64 0)).setCell ⟨w.heap.size, 6, none⟩ (.int .i64 x1)).setCell ⟨w.heap.size, 7, none⟩ (.string sb)) = vf at *
            obtain ⟨a0, a1, a2, a3, a4, a5, a6, a7, a8⟩ := RF
            refine bodyPost_ret (v := .tuple #[.agg #[.int .i64 3, .int .i64 x0, .int .i64 0, .int .i64 0, .int .i64 0, .int .i64 0, .int .i64 x1, .string sb], .int .i64 0]) (by simp (maxDischargeDepth := 6) [results, Try.results14, go_sem, a1, a2, a3, a4, a5, a6, a7, a8]) rfl ?_
            exact ⟨by rw [HU.out]; rfl, BF⟩
theorem specUnpack_any (a : Option Addr) (n c : Nat) (f : Nat → Int) (w : World) (hm20 : n ≤ 1048576) (hc : n ≤ c) (hcm : c ≤ maxLen) (hs : SrcB w a n f) (hr : ∀ i, i < n → 0 ≤ f i ∧ f i ≤ 255) :
    Calls Try.prog 14 #[.slice a n c] w fun e w' => e = .returned (uv (unp f n)) ∧ Below w.heap.size w w' := by
  by_cases h2 : n < 2
  · exact specUnpack_short a n c f w h2
  · rcases hs with h0 | ⟨b, off, rfl, hf⟩
    · omega
    · by_cases h : chk f (n - 1) = f (n - 1)
      · by_cases hk : 1 ≤ f 0 ∧ f 0 ≤ 3
        · by_cases k1 : f 0 = 1
          · exact specUnpack_k1 b off n c f w (by omega) hm20 hc hcm hf hr h k1
          · by_cases k2 : f 0 = 2
            · exact specUnpack_k2 b off n c f w (by omega) hm20 hc hcm hf hr h k2
            · exact specUnpack_k3 b off n c f w (by omega) hm20 hc hcm hf hr h (by omega)
        · exact specUnpack_kind b off n c f w (by omega) hm20 hc hcm hf hr h hk
      · exact specUnpack_check b off n c f w (by omega) hm20 hc hcm hf hr h
end Go.Proofs.Ytbflhhifkhoapaa
