/- A list that may be none is drawn. -/
import Derived.Test.YtkeijldfblgeaaaV102
import Derived.WalkKit
import Derived.WalkSpells
import Derived.WalkLawsBesides
import Derived.Deep.RegionHeld
namespace Go.Proofs.Ytkeijldfblgeaaa
open Go.RowKit
set_option linter.unusedVariables false
set_option maxRecDepth 100000 in
set_option maxHeartbeats 8000000 in
theorem l10DrawAny_any (B p : Nat) (w : World) (hcur : CurOk w B p) :
    Calls Try.prog 39 #[.pointer (some ⟨p, 0, none⟩)] w fun e w' => ∃ v L, e = .returned v ∧ Pw w B p v L w' ∧ L.length ≤ 9 := by
  have hpl := hcur.lt
  go_enter Try.func39, Try.ntmps39
  go_wp2_with fail
  refine (l10DrawPeers_any B p _ hcur).mono ?_
  rintro e w1 ⟨v, L, rfl, ST, hL⟩
  clear hcur
  obtain ⟨av, cv, rfl, _, _, _⟩ := ownF_src ST.2.1
  by_cases hz : L.length = 0
  · have hL0 : L = [] := List.eq_nil_of_length_eq_zero hz
    subst hL0
    clear hz
    go_wp2_with fail
    go_ret
    exact ⟨_, [], rfl, ST, by simp⟩
  have hz' : ((L.length : Int) == 0) = false := beq_eq_false_iff_ne.2 (by omega)
  go_wp2_with fail
  refine (l1Below_any B p _ _ ST.1).mono ?_
  rintro e w2 ⟨x, rfl, x0, _, x2, _, hc, hb⟩
  have x3 := x2 (by omega)
  replace ST := ST.call hc hb
  clear hc hb x2 hz'
  obtain ⟨i, rfl⟩ := Int.eq_ofNat_of_zero_le x0
  have hi : i < L.length := by omega
  go_wp2_with fail
  refine (l1Below_any B p 25 _ ST.1).mono ?_
  rintro e w3 ⟨z, rfl, z0, _, _, _, hc, hb⟩
  replace ST := ST.call hc hb
  clear hc hb
  obtain ⟨g, ha, hgb, hgl, hcl, hput⟩ := own_put5 ST.2.1 hi
  subst ha
  have HI : Hid (∀ wq, Pw w B p (.slice (some ⟨g, 0, none⟩) L.length cv) L wq → g < wq.heap.size ∧ (∀ j, j < 5 → (∃ u, wq.cell? ⟨g, i * 5 + j, none⟩ = some u) ∧ wq.frozen? ⟨g, i * 5 + j, none⟩ = false) ∧ ∀ (j : Nat) (q : PT) (u : Value), j < 5 → MCPeer q j = u → (∀ t, t < 5 → t ≠ j → MCPeer q t = MCPeer (gP L i) t) → (wq.setCell ⟨g, i * 5 + j, none⟩ u).ownsRow w.heap.size 51 5 (.slice (some ⟨g, 0, none⟩) L.length cv) L.length (prow (L.set i q))) := fun wq hq => by
    obtain ⟨g', ha', h1, h2, h3, h4⟩ := own_put5 hq.2.1 hi
    simp at ha'
    subst ha'
    exact ⟨h2, h3, fun j q u a b c => by have := h4 j q u a b c; rw [List.length_set] at this; exact this⟩
  clear hgl hcl hput
  have hLm : L.length ≤ 9 := by omega
  by_cases c0 : z = 0
  · subst c0
    have A1 := Below.nw w3 (.cells #[.int .i64 (-1), .int .i64 8, .int .i64 0] 3)
    have hcl : ∀ j, j < 3 → ∃ v : Int, (w3.alloc (.cells #[.int .i64 (-1), .int .i64 8, .int .i64 0] 3)).cell? ⟨w3.heap.size, 0 + j, none⟩ = some (.int .i64 v) := fun j hj => by
      match j, hj with
      | 0, _ => exact ⟨-1, by simp⟩
      | 1, _ => exact ⟨8, by simp⟩
      | 2, _ => exact ⟨0, by simp⟩
    have CP := l1PickInt_any B p w3.heap.size 0 3 3 _ (ST.below A1).1 (by omega) (by omega) (by simp) (by have := ST.1.lt; omega) hcl
    replace ST := ST.below A1
    clear hcl A1
    go_wp2_with fail
    refine CP.mono ?_
    rintro e w4 ⟨_, y, _, _, rfl, hc, hb⟩
    replace ST := ST.call hc hb
    clear hc hb CP
    obtain ⟨hl, hcf, hput⟩ := HI.out _ ST
    obtain ⟨⟨u, hu'⟩, hf'⟩ := hcf 0 (by omega)
    have hu : w4.cell? ⟨g, i * 5, none⟩ = some u := hu'
    have hf : w4.frozen? ⟨g, i * 5, none⟩ = false := hf'
    clear hu' hf'
    have O5 := hput 0 (y, (gP L i).2) (.int .i64 y) (by omega) rfl (fun t h1 h2 => by match t, h1, h2 with | 1, _, _ => rfl | 2, _, _ => rfl | 3, _, _ => rfl | 4, _, _ => rfl)
    have S5 : Hid (Pw w B p _ (L.set i (y, (gP L i).2)) (w4.setCell ⟨g, i * 5, none⟩ (.int .i64 y))) := ST.set hgb (by rw [List.length_set]; exact O5)
    clear hput hcf O5
    go_wp2_with fail
    go_ret
    exact ⟨_, _, rfl, S5.out, by rw [List.length_set]; omega⟩
  by_cases c1 : z = 1
  · subst c1
    go_wp2_with fail
    refine (l2DrawCount_any B p _ ST.1).mono ?_
    rintro e w4 ⟨y, rfl, hc, hb⟩
    replace ST := ST.call hc hb
    clear hc hb
    obtain ⟨hl, hcf, hput⟩ := HI.out _ ST
    obtain ⟨⟨u, hu⟩, hf⟩ := hcf 3 (by omega)
    have O5 := hput 3 ((gP L i).1, (gP L i).2.1, (gP L i).2.2.1, y, (gP L i).2.2.2.2) (.int .i64 y) (by omega) rfl (fun t h1 h2 => by match t, h1, h2 with | 0, _, _ => rfl | 1, _, _ => rfl | 2, _, _ => rfl | 4, _, _ => rfl)
    have S5 : Hid (Pw w B p _ (L.set i _) (w4.setCell ⟨g, i * 5 + 3, none⟩ (.int .i64 y))) := ST.set hgb (by rw [List.length_set]; exact O5)
    clear hput hcf O5
    go_wp2_with fail
    go_ret
    exact ⟨_, _, rfl, S5.out, by rw [List.length_set]; omega⟩
  by_cases c2 : z = 2
  · subst c2
    go_wp2_with fail
    refine (l1DrawIval_any B p _ ST.1).mono ?_
    rintro e w4 ⟨y1, y2, rfl, hc, hb⟩
    replace ST := ST.call hc hb
    clear hc hb
    obtain ⟨hl, hcf, hput⟩ := HI.out _ ST
    obtain ⟨⟨u, hu⟩, hf⟩ := hcf 1 (by omega)
    obtain ⟨⟨u2, hu2⟩, hf2⟩ := hcf 2 (by omega)
    have O5 := hput 1 ((gP L i).1, y1, (gP L i).2.2) (.int .i64 y1) (by omega) rfl (fun t h1 h2 => by match t, h1, h2 with | 0, _, _ => rfl | 2, _, _ => rfl | 3, _, _ => rfl | 4, _, _ => rfl)
    have S5 : Pw w B p (.slice (some ⟨g, 0, none⟩) L.length cv) (L.set i ((gP L i).1, y1, (gP L i).2.2)) (w4.setCell ⟨g, i * 5 + 1, none⟩ (.int .i64 y1)) := ST.set hgb (by rw [List.length_set]; exact O5)
    have S5' := S5.2.1
    have e5 : (L.set i ((gP L i).1, y1, (gP L i).2.2)).length = L.length := List.length_set
    obtain ⟨g', ha', _, _, _, hput2⟩ := own_put5 (L := L.set i ((gP L i).1, y1, (gP L i).2.2)) (c := cv) (a := some ⟨g, 0, none⟩) (by rw [e5] at S5' ⊢; exact S5') (i := i) (by omega)
    simp at ha'
    subst ha'
    have O6 := hput2 2 ((gP L i).1, y1, y2, (gP L i).2.2.2) (.int .i64 y2) (by omega) rfl (fun t h1 h2 => by rw [gP_set hi, if_pos rfl]; match t, h1, h2 with | 0, _, _ => rfl | 1, _, _ => rfl | 3, _, _ => rfl | 4, _, _ => rfl)
    have S6 : Hid (Pw w B p (.slice (some ⟨g, 0, none⟩) L.length cv) ((L.set i ((gP L i).1, y1, (gP L i).2.2)).set i ((gP L i).1, y1, y2, (gP L i).2.2.2)) ((w4.setCell ⟨g, i * 5 + 1, none⟩ (.int .i64 y1)).setCell ⟨g, i * 5 + 2, none⟩ (.int .i64 y2))) := S5.set hgb (by rw [List.length_set, List.length_set] at O6 ⊢; exact O6)
    clear hput hcf O5 O6 S5 S5' hput2 e5
    go_wp2_with fail
    go_ret
    exact ⟨_, _, rfl, S6.out, by rw [List.length_set, List.length_set]; omega⟩
  by_cases c3 : z = 3
  · subst c3
    have OW := ST.2.1
    have hsz : w.heap.size ≤ w3.heap.size := ST.2.2.1.2.2.2.1
    go_wp2_with (at_builtin; refine add_peer rfl _ _ rfl w.heap.size L _ rfl OW rfl (by omega) (by omega) ?_; intro v' w9 O9 hg9 hn9)
    have S9 := ST.add O9 hg9
    obtain ⟨a9, c9, rfl, _, _, _⟩ := ownF_src S9.2.1
    have S9' : Hid _ := S9
    clear OW O9 hg9 hn9 ST S9
    go_wp2_with fail
    go_ret
    exact ⟨_, _, rfl, S9'.out, by simp; omega⟩
  · have d0 : (z == 0) = false := by simp [c0]
    have d1 : (z == 1) = false := by simp [c1]
    have d2 : (z == 2) = false := by simp [c2]
    have d3 : (z == 3) = false := by simp [c3]
    go_wp2_with fail
    go_ret
    exact ⟨_, L, rfl, ST, by omega⟩
end Go.Proofs.Ytkeijldfblgeaaa
