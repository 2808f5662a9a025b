/- Contracts of HullOf. -/
import Derived.Test.YtaggohibfghnmaaX98
import Derived.Test.YtaggohibfghnmaaS12
import Derived.WalkKit
import Derived.WalkSpells
import Derived.WalkLawsBesides
import Derived.Deep.RegionHeld
namespace Go.Proofs.Ytaggohibfghnmaa
open Go.RowKit
set_option linter.unusedVariables false
/- An interval in a block of its own. -/
def Vb (w : World) (j : Nat) (x y : Int) : Prop := j < w.heap.size ∧ w.cell? ⟨j, 0, none⟩ = some (.int .i64 x) ∧ w.cell? ⟨j, 1, none⟩ = some (.int .i64 y) ∧ w.frozen? ⟨j, 0, none⟩ = false ∧ w.frozen? ⟨j, 1, none⟩ = false
theorem Vb.new (w : World) (x y : Int) (T : TypeId) : Vb (w.alloc (.cells #[.int .i64 x, .int .i64 y] T)) w.heap.size x y := ⟨by simp, by simp, by simp, by simp, by simp⟩
theorem Vb.belowB {w w' : World} {B j : Nat} {x y : Int} (h : Vb w j x y) (hb : Below B w w') (hj : j < B) : Vb w' j x y := by
  obtain ⟨h0, h1, h2, h3, h4⟩ := h
  exact ⟨Nat.lt_of_lt_of_le h0 hb.size, by rw [hb.cell (p := ⟨j, 0, none⟩) hj]; exact h1, by rw [hb.cell (p := ⟨j, 1, none⟩) hj]; exact h2, by rw [hb.frozen (p := ⟨j, 0, none⟩) hj]; exact h3, by rw [hb.frozen (p := ⟨j, 1, none⟩) hj]; exact h4⟩
theorem Vb.below {w w' : World} {j : Nat} {x y : Int} (h : Vb w j x y) (hb : Below w.heap.size w w') : Vb w' j x y := h.belowB hb h.1
theorem Vb.drew {w : World} {j : Nat} {x y : Int} (h : Vb w j x y) : Vb w.drew j x y := h
def put2 (w : World) (j : Nat) (x y : Int) : World := (w.setCell ⟨j, 0, none⟩ (.int .i64 x)).setCell ⟨j, 1, none⟩ (.int .i64 y)
theorem Vb.put {w : World} {j : Nat} {x y : Int} (h : Vb w j x y) (p q : Int) : Vb (put2 w j p q) j p q := by
  obtain ⟨h0, h1, h2, h3, h4⟩ := h
  have e1 : (w.setCell ⟨j, 0, none⟩ (.int .i64 p)).cell? ⟨j, 1, none⟩ = some (.int .i64 y) := (World.cell?_setCell_other _ _ _ _ (by simp)).trans h2
  exact ⟨by simpa [put2] using h0, (World.cell?_setCell_other _ _ _ _ (by simp)).trans (World.cell?_setCell_same _ _ _ h1), World.cell?_setCell_same _ _ _ e1, by simpa [put2] using h3, by simpa [put2] using h4⟩
theorem Vb.putO {w : World} {j k : Nat} {x y : Int} (h : Vb w j x y) (hk : j ≠ k) (p q : Int) : Vb (put2 w k p q) j x y := by
  obtain ⟨h0, h1, h2, h3, h4⟩ := h
  exact ⟨by simpa [put2] using h0, (World.cell?_setCell_other _ _ _ _ (by simp)).trans ((World.cell?_setCell_other _ _ _ _ (by simp)).trans h1), (World.cell?_setCell_other _ _ _ _ (by simp)).trans ((World.cell?_setCell_other _ _ _ _ (by simp)).trans h2), by simpa [put2] using h3, by simpa [put2] using h4⟩
theorem Below.put2 {B : Nat} {a w : World} (h : Below B a w) {j : Nat} (hj : B ≤ j) (p q : Int) : Below B a (put2 w j p q) := (h.setCell (p := ⟨j, 0, none⟩) hj _).setCell (p := ⟨j, 1, none⟩) hj _
def hlB (L : List (Int × Int)) : Bool := decide (0 < L.length)
def hlL (L : List (Int × Int)) : Int := (L.getD 0 (0, 0)).1
def hlH (L : List (Int × Int)) : Int := (L.getD (L.length - 1) (0, 0)).2
section
variable {L : List (Int × Int)}
theorem asc_at (h : L.Pairwise (fun a b => a.2 + 1 < b.1)) {i j : Nat} (hij : i < j) (hj : j < L.length) : (L.getD i (0, 0)).2 + 1 < (L.getD j (0, 0)).1 := by
  have := List.pairwise_iff_getElem.1 h i j (by omega) hj hij
  have hi : i < L.length := by omega
  simpa [hi, hj] using this
theorem ok_at (h : ∀ r, r ∈ L → okI r.1 r.2 = true) {i : Nat} (hi : i < L.length) : okI (L.getD i (0, 0)).1 (L.getD i (0, 0)).2 = true := by
  have := h L[i] (List.getElem_mem hi)
  simpa [hi] using this
theorem acc_asc (ha : L.Pairwise (fun a b => a.2 + 1 < b.1)) (ho : ∀ r, r ∈ L → okI r.1 r.2 = true) : ∀ {k : Nat}, k < L.length → acc joinB imn imx (fun i => L.getD i (0, 0)) k = (true, (L.getD 0 (0, 0)).1, (L.getD k (0, 0)).2)
  | 0, hk => by
    have := ok_at ho hk
    simp only [acc]
    rw [this]; rfl
  | k + 1, hk => by
    have ih := acc_asc ha ho (k := k) (by omega)
    rw [acc_step ih]
    have o0 := okI_t (ok_at ho (i := 0) (by omega))
    have o1 := okI_t (ok_at ho (i := k) (by omega))
    have o2 := okI_t (ok_at ho hk)
    have h1 := asc_at ha (i := k) (j := k + 1) (by omega) hk
    have h0 : (L.getD 0 (0, 0)).1 ≤ (L.getD k (0, 0)).1 := by
      by_cases e : k = 0
      · subst e; exact Int.le_refl _
      · have := asc_at ha (i := 0) (j := k) (by omega) (by omega); omega
    have hj : joinB (L.getD 0 (0, 0)).1 (L.getD k (0, 0)).2 (L.getD (k + 1) (0, 0)).1 (L.getD (k + 1) (0, 0)).2 = true := by
      simp only [joinB, okII, Bool.and_eq_true]
      exact ⟨decide_eq_true (by omega), ok_at ho hk⟩
    simp only [hj, sel_t]
    rw [imn_g (by omega), imx_g (by omega)]
theorem allR_asc (ha : L.Pairwise (fun a b => a.2 + 1 < b.1)) (ho : ∀ r, r ∈ L → okI r.1 r.2 = true) (hl : L.length ≤ 64) : allR joinB imn imx (fun i => L.getD i (0, 0)) L.length = (hlB L, hlL L, hlH L) := by
  by_cases h : 0 < L.length
  · rw [allR_in ⟨h, hl⟩, acc_asc ha ho (by omega)]
    simp [hlB, hlL, hlH, h]
  · have : L = [] := List.length_eq_zero_iff.1 (by omega)
    subst this
    rw [allR_out (by simp)]; rfl
end
theorem rnL_ok (f : Nat → Int × Int) (n : Nat) (k : Int) : (rnL f n k).Pairwise (fun a b => a.2 + 1 < b.1) ∧ (∀ r, r ∈ rnL f n k → okI r.1 r.2 = true) ∧ (rnL f n k).length ≤ 24 := by
  unfold rnL
  split
  · next h =>
    have ⟨h1, h2⟩ := srcB_le h.1
    have := rns_len f n k
    exact ⟨(rns_ok h2).1, (rns_ok h2).2, by omega⟩
  · exact ⟨List.Pairwise.nil, fun r hr => by simp at hr, by simp⟩
set_option maxHeartbeats 1000000 in
theorem implHull (a : Option Addr) (n c : Nat) (f : Nat → Int × Int) (k : Int) (w : World) (hm : n ≤ maxLen) (hs : Src w a n f) :
    Calls Try.prog 14 #[.slice a n c, .int .i64 k] w fun e w' => e = .returned (.tuple #[.agg #[.int .i64 (hlL (rnL f n k)), .int .i64 (hlH (rnL f n k))], .bool (hlB (rnL f n k))]) ∧ Below w.heap.size w w' := by
  have B0 := Below.al9 w (.cells #[.int .i64 0, .int .i64 0] 25)
  have N0 := Vb.new w 0 0 25
  have CR := implRuns_any a n c f k (w.alloc (.cells #[.int .i64 0, .int .i64 0] 25)) hm (hs.below B0)
  obtain ⟨h1, h2, h3⟩ := rnL_ok f n k
  have CJ := fun (v : World) (a' : Option Addr) (c' : Nat) (hc : (rnL f n k).length ≤ c') (hcm : c' ≤ maxLen) (h : Src v a' (rnL f n k).length (fun i => (rnL f n k).getD i (0, 0))) => implJoinAllC a' (rnL f n k).length c' (fun i => (rnL f n k).getD i (0, 0)) v hc hcm h
  rw [allR_asc h1 h2 (by omega)] at CJ
  simp only at CJ
  generalize rnL f n k = L at *
  generalize hlL L = lo at *
  generalize hlH L = hi at *
  generalize hlB L = bb at *
  clear h1 h2
  go_enter Try.func14, Try.ntmps14
  go_wp2_with fail
  refine CR.mono ?_
  rintro e w1 ⟨v, rfl, O, hb⟩
  have B1 := B0.trans (hb.mono B0.size)
  have N1 := N0.below hb
  obtain ⟨a1, c1, rfl, hc1, hcm, S1⟩ := own_src O
  have HS1 : Hid (Src w1 a1 L.length fun i => L.getD i (0, 0)) := S1
  clear hb O S1 B0 N0
  go_wp2_with fail
  refine (CJ _ _ _ hc1 hcm HS1.out).mono ?_
  rintro e w2 ⟨rfl, hb⟩
  have B2 := B1.trans (hb.mono B1.size)
  have N2 := N1.below hb
  clear hb B1 N1
  have B3 := Below.put2 B2 (Nat.le_refl _) lo hi
  have N3 := N2.put lo hi
  obtain ⟨n0, n1, n2, n3, n4⟩ := N2
  go_wp2_with fail
  change Below _ _ ((w2.setCell ⟨w.heap.size, 0, none⟩ (.int .i64 lo)).setCell ⟨w.heap.size, 1, none⟩ (.int .i64 hi)) at B3
  change Vb ((w2.setCell ⟨w.heap.size, 0, none⟩ (.int .i64 lo)).setCell ⟨w.heap.size, 1, none⟩ (.int .i64 hi)) _ _ _ at N3
  generalize ((w2.setCell ⟨w.heap.size, 0, none⟩ (.int .i64 lo)).setCell ⟨w.heap.size, 1, none⟩ (.int .i64 hi)) = w3 at *
  obtain ⟨m0, m1, m2, m3, m4⟩ := N3
  exact bodyPost_ret (v := .tuple #[.agg #[.int .i64 lo, .int .i64 hi], .bool bb]) (by simp (maxDischargeDepth := 6) [results, Try.results14, go_sem, m1, m2]) rfl ⟨rfl, B3⟩
theorem hl_none {L : List (Int × Int)} (h : L.length = 0) : hlB L = false ∧ hlL L = 0 ∧ hlH L = 0 := by
  have : L = [] := List.length_eq_zero_iff.1 h
  subst this; exact ⟨rfl, rfl, rfl⟩
theorem hl_some {L : List (Int × Int)} (h : 0 < L.length) : hlB L = true := by simp [hlB, h]
end Go.Proofs.Ytaggohibfghnmaa
