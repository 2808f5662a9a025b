/- Contracts of Apart and Middle. Contracts of the small functions of cha -/
import Derived.Deep.RegionHeld
import Derived.Test.YtikbjljkakabdaaGreatMB0
import Derived.Test.YtikbjljkakabdaaGreatMB1
namespace Go.Proofs.YtikbjljkakabdaaGreat
open Go.RowKit
set_option linter.unusedVariables false
set_option maxRecDepth 100000
set_option maxHeartbeats 16000000
theorem fq {x : Int} (h1 : -9000000000000000000 ≤ x) (h2 : x ≤ 9000000000000000000) : IntKind.i64.wrap x = x := Go.IntWalk.i64_in _ ⟨by omega, by omega⟩
def cX (al ah bl bh : Int) : Int := match aY al ah bl bh with | true => imx 0 (imx al bl - imn ah bh) | false => -1
theorem jZ {al ah bl bh : Int} (h : aY al ah bl bh = true) : cX al ah bl bh = imx 0 (imx al bl - imn ah bh) := by rw [cX, h]
theorem jY {al ah bl bh : Int} (h : aY al ah bl bh = false) : cX al ah bl bh = -1 := by rw [cX, h]
theorem sk {x y : Int} (h1 : -1000000000000 ≤ x) (h2 : x ≤ 1000000000000) (h3 : -1000000000000 ≤ y) (h4 : y ≤ 1000000000000) : -1000000000000 ≤ imx x y ∧ imx x y ≤ 1000000000000 := by unfold imx; split <;> omega
theorem sj {x y : Int} (h1 : -1000000000000 ≤ x) (h2 : x ≤ 1000000000000) (h3 : -1000000000000 ≤ y) (h4 : y ≤ 1000000000000) : -1000000000000 ≤ imn x y ∧ imn x y ≤ 1000000000000 := by unfold imn; split <;> omega
theorem gU (al ah bl bh : Int) (w : World) :
 Calls Tryz.prog 106 #[.agg #[.int .i64 al, .int .i64 ah], .agg #[.int .i64 bl, .int .i64 bh]] w fun e w' => e = .returned (.int .i64 (cX al ah bl bh)) ∧ Below w.heap.size w w' := by
 cases ha : okI al ah
 ·rw [jY (by simp [aY, ha])]
  go_enter Tryz.func106, Tryz.ntmps106
  go_wp2_with (first | (go_at_call 79; refine (ao _ _ _).mono ?_; rintro e w' ⟨rfl, hb⟩; obtain ⟨hc, hf⟩ := aj hb; (first | have hB := Below.trans (Below.trans hB zB) (Below.mono hb zL) | have hB := hb); obtain ⟨hC, hF⟩ := aj hB; have hz := hb.size; (try simp at hz); (first | have hz0 := zH4 w w' | have hz0 := zH3 w w' | have hz0 := zH2 w w' | have hz0 := zH1 w w' | skip)))
  go_ret
  exact ⟨rfl, zB⟩
 cases hbb : okI bl bh
 ·rw [jY (by simp [aY, hbb])]
  go_enter Tryz.func106, Tryz.ntmps106
  go_wp2_with (first | (go_at_call 79; refine (ao _ _ _).mono ?_; rintro e w' ⟨rfl, hb⟩; obtain ⟨hc, hf⟩ := aj hb; (first | have hB := Below.trans (Below.trans hB zB) (Below.mono hb zL) | have hB := hb); obtain ⟨hC, hF⟩ := aj hB; have hz := hb.size; (try simp at hz); (first | have hz0 := zH4 w w' | have hz0 := zH3 w w' | have hz0 := zH2 w w' | have hz0 := zH1 w w' | skip)))
  go_ret
  exact ⟨rfl, zB⟩
 rw [jZ (by simp [aY, ha, hbb])]
 have ⟨a1, a2, a3⟩ := bF ha
 have ⟨b1, b2, b3⟩ := bF hbb
 have ⟨m1, m2⟩ := sk (x := al) (y := bl) (by omega) (by omega) (by omega) (by omega)
 have ⟨m3, m4⟩ := sj (x := ah) (y := bh) (by omega) (by omega) (by omega) (by omega)
 go_enter Tryz.func106, Tryz.ntmps106
 go_wp2_with (first | (go_at_call 79; refine (ao _ _ _).mono ?_; rintro e w' ⟨rfl, hb⟩; obtain ⟨hc, hf⟩ := aj hb; (first | have hB := Below.trans (Below.trans hB zB) (Below.mono hb zL) | have hB := hb); obtain ⟨hC, hF⟩ := aj hB; have hz := hb.size; (try simp at hz); (first | have hz0 := zH4 w w' | have hz0 := zH3 w w' | have hz0 := zH2 w w' | have hz0 := zH1 w w' | skip)))
 go_region_held (fun w' => w'.cell? ⟨w.heap.size, 0, none⟩ = some (.int .i64 al) ∧ w'.cell? ⟨w.heap.size, 1, none⟩ = some (.int .i64 ah) ∧ w'.cell? ⟨w.heap.size + 1, 0, none⟩ = some (.int .i64 bl) ∧ w'.cell? ⟨w.heap.size + 1, 1, none⟩ = some (.int .i64 bh)) (simp (maxDischargeDepth := 6) [go_sem, *]) (first | (go_at_call 141; refine (ir _ _ _).mono ?_; rintro e w' ⟨rfl, rfl⟩) | (go_at_call 142; refine (iu _ _ _).mono ?_; rintro e w' ⟨rfl, rfl⟩))
 all_goals go_wp2
 all_goals go_ret
 all_goals exact ⟨di (by rw [fq (by omega) (by omega)]), zB⟩
theorem ow (x n : Int) (h : 0 < n) : -(if x < 0 then -x else x) ≤ x.tdiv n ∧ x.tdiv n ≤ (if x < 0 then -x else x) := by
 have e : (x.tdiv n).natAbs = x.natAbs / n.natAbs := Int.natAbs_tdiv x n
 have l : x.natAbs / n.natAbs ≤ x.natAbs := Nat.div_le_self _ _
 generalize x.natAbs / n.natAbs = q at e l
 generalize x.tdiv n = y at e
 split <;> omega
theorem tdown (x n : Int) (h : 0 < n) (hm : x.tmod n < 0) : x / n = x.tdiv n - 1 := by
 rw [Int.tmod_eq_emod] at hm
 rw [Int.tdiv_eq_ediv]
 have hs : n.sign = 1 := Int.sign_eq_one_of_pos h
 have hr := Int.emod_nonneg x (b := n) (by omega)
 split at hm
 ·omega
 ·next hc => rw [if_neg hc, hs]; omega
theorem sK (x n : Int) (h : 0 < n) (hm : 0 ≤ x.tmod n) : x / n = x.tdiv n := by
 rw [Int.tmod_eq_emod] at hm
 rw [Int.tdiv_eq_ediv]
 have hs : n.sign = 1 := Int.sign_eq_one_of_pos h
 have hr := Int.emod_lt_of_pos x h
 split at hm
 ·next hc => rw [if_pos hc]; omega
 ·omega
theorem fT (x n : Int) (w : World) (h1 : -9000000000000000000 ≤ x) (h2 : x ≤ 9000000000000000000) (hn : 0 < n) (hn2 : n ≤ 9000000000000000000) :
 Calls Tryz.prog 159 #[.int .i64 x, .int .i64 n] w fun e w' => e = .returned (.int .i64 (x / n)) ∧ w = w' := by
 have hne : (n == 0) = false := by rw [beq_eq_false_iff_ne]; omega
 have hq1 : -9000000000000000000 ≤ x.tdiv n := by have := ow x n hn; omega
 have hq2 : x.tdiv n ≤ 9000000000000000000 := by have := ow x n hn; omega
 go_enter Tryz.func159, Tryz.ntmps159
 go_wp2
 all_goals go_ret
 all_goals exact ⟨di (by first | exact (tdown x n hn ‹_›).symm | exact (sK x n hn ‹_›).symm), rfl⟩
theorem je {x y X Y : Int} (h1 : 0 ≤ x) (h2 : x ≤ X) (h3 : 0 ≤ y) (h4 : y ≤ Y) : 0 ≤ x * y ∧ x * y ≤ X * Y :=
 ⟨Int.mul_nonneg h1 h3, Int.mul_le_mul h2 h4 h3 (Int.le_trans h1 h2)⟩
def okD (n d : Int) : Bool := decide (1 ≤ d ∧ d ≤ 1000000 ∧ 0 ≤ n ∧ 2 * n ≤ d)
theorem iy {n d : Int} (h : okD n d = true) : 1 ≤ d ∧ d ≤ 1000000 ∧ 0 ≤ n ∧ 2 * n ≤ d := of_decide_eq_true h
def okT (t : Int) : Bool := decide (0 ≤ t ∧ t ≤ 1000000000000)
theorem cD {t : Int} (h : okT t = true) : 0 ≤ t ∧ t ≤ 1000000000000 := of_decide_eq_true h
theorem okT_f {t : Int} (h : okT t = false) : ¬ (0 ≤ t ∧ t ≤ 1000000000000) := of_decide_eq_false h
theorem aB (n d : Int) (w : World) :
 Calls Tryz.prog 74 #[.agg #[.int .i64 n, .int .i64 d]] w fun e w' => e = .returned (.bool (okD n d)) ∧ Below w.heap.size w w' := by
 go_enter Tryz.func74, Tryz.ntmps74
 go_wp2
 all_goals go_ret
 all_goals exact ⟨ab (by rw [Bool.eq_iff_iff]; simp [okD]; try omega), zB⟩
theorem cM (n d : Int) (w : World) :
 Calls Tryz.prog 128 #[.agg #[.int .i64 n, .int .i64 d]] w fun e w' => e = .returned (.bool (okD n d)) ∧ Below w.heap.size w w' := by
 have hd : d.tdiv 2 = if 0 ≤ d then d / 2 else -(-d / 2) := by
  split
  ·exact Int.tdiv_eq_ediv_of_nonneg ‹_›
  ·have h := Int.neg_tdiv (a := -d) (b := 2)
   have k : (-d).tdiv 2 = -d / 2 := Int.tdiv_eq_ediv_of_nonneg (by omega)
   rw [Int.neg_neg, k] at h
   exact h
 go_enter Tryz.func128, Tryz.ntmps128
 go_wp2
 all_goals go_ret
 all_goals exact ⟨ab (by rw [Bool.eq_iff_iff]; simp [okD]; try (split at hd <;> omega)), zB⟩
theorem lP (n d : Int) (w : World) :
 Calls Tryz.prog 32 #[.agg #[.int .i64 n, .int .i64 d]] w fun e w' => e = .returned (.agg #[.int .i64 n, .int .i64 d]) ∧ Below w.heap.size w w' := by
 go_enter Tryz.func32, Tryz.ntmps32
 go_wp2
 exact bodyPost_ret (v := .agg #[.int .i64 n, .int .i64 d]) (by simp [results, Tryz.results32, go_sem]) rfl ⟨rfl, zB⟩
theorem iO (n d : Int) (w : World) :
 Calls Tryz.prog 51 #[.agg #[.int .i64 n, .int .i64 d], .agg #[.int .i64 n, .int .i64 d]] w fun e w' => e = .returned (.bool true) ∧ Below w.heap.size w w' := by
 go_enter Tryz.func51, Tryz.ntmps51
 go_wp2
 go_ret
 exact ⟨rfl, zB⟩
theorem aD (t : Int) (w : World) :
 Calls Tryz.prog 127 #[.int .i64 t] w fun e w' => e = .returned (.bool (okT t)) ∧ w = w' := by
 go_enter Tryz.func127, Tryz.ntmps127
 go_wp2
 all_goals go_ret
 all_goals exact ⟨ab (by rw [Bool.eq_iff_iff]; simp [okT]; try omega), rfl⟩
theorem aw (t : Int) (w : World) :
 Calls Tryz.prog 75 #[.int .i64 t] w fun e w' => e = .returned (.bool (okT t)) ∧ w = w' := by
 go_enter Tryz.func75, Tryz.ntmps75
 go_wp2
 all_goals go_ret
 all_goals exact ⟨ab (by rw [Bool.eq_iff_iff]; simp [okT]; try omega), rfl⟩
theorem lB (n d : Int) (w : World) (h : okD n d = true) :
 Calls Tryz.prog 236 #[.agg #[.int .i64 n, .int .i64 d]] w fun e w' => e = .returned (.int .i64 (d - n)) ∧ Below w.heap.size w w' := by
 have ⟨h1, h2, h3, h4⟩ := iy h
 go_enter Tryz.func236, Tryz.ntmps236
 go_wp2
 go_ret
 exact ⟨rfl, zB⟩
theorem kr (n d : Int) (w : World) (h : okD n d = true) :
 Calls Tryz.prog 234 #[.agg #[.int .i64 n, .int .i64 d]] w fun e w' => e = .returned (.int .i64 (d + n)) ∧ Below w.heap.size w w' := by
 have ⟨h1, h2, h3, h4⟩ := iy h
 go_enter Tryz.func234, Tryz.ntmps234
 go_wp2
 go_ret
 exact ⟨rfl, zB⟩
theorem jp (n d : Int) (w : World) :
 Calls Tryz.prog 236 #[.agg #[.int .i64 n, .int .i64 d]] w fun e w' => e = .returned (.int .i64 (wrap64 (d - n))) ∧ Below w.heap.size w w' := by
 go_enter Tryz.func236, Tryz.ntmps236
 go_wp2
 go_ret
 exact ⟨rfl, zB⟩
theorem iX (n d : Int) (w : World) :
 Calls Tryz.prog 234 #[.agg #[.int .i64 n, .int .i64 d]] w fun e w' => e = .returned (.int .i64 (wrap64 (d + n))) ∧ Below w.heap.size w w' := by
 go_enter Tryz.func234, Tryz.ntmps234
 go_wp2
 go_ret
 exact ⟨rfl, zB⟩
def dnI (x n : Int) : Int := x / n
def upI (x n : Int) : Int := (x + n - 1) / n
theorem r8 {x n : Int} (hx : 0 ≤ x) (hn : 0 < n) : 0 ≤ x / n ∧ x / n ≤ x :=
 ⟨Int.ediv_nonneg hx (by omega), Int.ediv_le_self n hx⟩
theorem pS {x n : Int} (hx : 0 ≤ x) (hn : 0 < n) : 0 ≤ dnI x n ∧ dnI x n ≤ x := r8 hx hn
theorem oy {x n : Int} (hn : 0 < n) : -(-x / n) = upI x n := by
 have a := Int.emod_add_mul_ediv (-x) n
 have b := Int.emod_nonneg (-x) (b := n) (by omega)
 have c := Int.emod_lt_of_pos (-x) hn
 unfold upI
 generalize -x / n = q at a ⊢
 generalize -x % n = r at a b c
 have e : x + n - 1 = (n - 1 - r) + n * -q := by rw [Int.mul_neg]; omega
 have z : (n - 1 - r) / n = 0 := Int.ediv_eq_zero_of_lt (by omega) (by omega)
 rw [e, Int.add_mul_ediv_left _ _ (by omega), z]
 omega
theorem ny {x n : Int} (hx : 0 ≤ x) (hn : 0 < n) : 0 ≤ upI x n ∧ upI x n ≤ x := by
 have h0 : 0 ≤ upI x n := Int.ediv_nonneg (by omega) (by omega)
 refine ⟨h0, ?_⟩
 rw [← oy hn] at h0 ⊢
 have a := Int.emod_add_mul_ediv (-x) n
 have b := Int.emod_nonneg (-x) (b := n) (by omega)
 have d := Int.emod_lt_of_pos (-x) hn
 generalize -x / n = q at a h0 ⊢
 generalize -x % n = r at a b d
 by_cases hq : q = 0
 ·omega
 ·have c : (n - 1) * 1 ≤ (n - 1) * -q := Int.mul_le_mul_of_nonneg_left (by omega) (by omega)
  rw [Int.sub_mul n 1 (-q), Int.mul_neg, Int.one_mul] at c
  omega
theorem dX (x n : Int) (w : World) (h1 : 0 ≤ x) (h2 : x ≤ 4000000000000000000) (hn : 0 < n) (hn2 : n ≤ 4000000000000000000) :
 Calls Tryz.prog 237 #[.int .i64 x, .int .i64 n] w fun e w' => e = .returned (.int .i64 (dnI x n)) ∧ w = w' := by
 have hne : (n == 0) = false := by rw [beq_eq_false_iff_ne]; omega
 have hq : x.tdiv n = dnI x n := Int.tdiv_eq_ediv_of_nonneg h1
 have ⟨b1, b2⟩ := pS h1 hn
 go_enter Tryz.func237, Tryz.ntmps237
 go_wp2
 all_goals go_ret
 all_goals exact ⟨di (by first | exact hq | exact rfl | (rw [hq]; exact fq (by omega) (by omega))), rfl⟩
theorem fP (x n : Int) (w : World) (h1 : 0 ≤ x) (h2 : x ≤ 4000000000000000000) (hn : 0 < n) (hn2 : n ≤ 4000000000000000000) :
 Calls Tryz.prog 235 #[.int .i64 x, .int .i64 n] w fun e w' => e = .returned (.int .i64 (upI x n)) ∧ w = w' := by
 have hne : (n == 0) = false := by rw [beq_eq_false_iff_ne]; omega
 have hq : (x + n - 1).tdiv n = upI x n := Int.tdiv_eq_ediv_of_nonneg (by omega)
 have ⟨b1, b2⟩ := ny h1 hn
 go_enter Tryz.func235, Tryz.ntmps235
 go_wp2
 all_goals go_ret
 all_goals exact ⟨di (by first | exact hq | exact rfl | (rw [hq]; exact fq (by omega) (by omega))), rfl⟩
theorem qh (x n : Int) (w : World) (h1 : 0 ≤ x) (h2 : x ≤ 4000000000000000000) (hn : 0 < n) (hn2 : n ≤ 4000000000000000000) :
 Calls Tryz.prog 158 #[.int .i64 x, .int .i64 n] w fun e w' => e = .returned (.int .i64 (upI x n)) ∧ w = w' := by
 have hq : -(-x / n) = upI x n := oy hn
 have ⟨b1, b2⟩ := ny h1 hn
 go_enter Tryz.func158, Tryz.ntmps158
 go_wp2_with (first | (go_at_call 159; refine (fT _ _ _ (by omega) (by omega) (by omega) (by omega)).mono ?_; rintro e w' ⟨rfl, rfl⟩))
 all_goals go_ret
 all_goals exact ⟨di (by first | exact hq | exact rfl | (rw [hq]; exact fq (by omega) (by omega))), rfl⟩
theorem fU (x : Int) (w : World) (h : 0 ≤ x) :
 Calls Tryz.prog 157 #[.int .i64 x] w fun e w' => e = .returned (.tuple #[.int .i64 (sel (okT x) x), .bool (okT x)]) ∧ w = w' := by
 cases ht : okT x
 ·have := okT_f ht
  rw [aK rfl]
  go_enter Tryz.func157, Tryz.ntmps157
  go_wp2
  all_goals go_ret2
  all_goals first | exact ⟨rfl, rfl⟩ | omega
 ·have := cD ht
  rw [bo rfl]
  go_enter Tryz.func157, Tryz.ntmps157
  go_wp2
  all_goals go_ret2
  all_goals first | exact ⟨rfl, rfl⟩ | omega
def Bx (w : World) (k : Nat) (x y : Int) : Prop := k < w.heap.size ∧ w.cell? ⟨k, 0, none⟩ = some (.int .i64 x) ∧ w.cell? ⟨k, 1, none⟩ = some (.int .i64 y) ∧ w.frozen? ⟨k, 0, none⟩ = false ∧ w.frozen? ⟨k, 1, none⟩ = false
theorem Bx.belowB {k B : Nat} {w w' : World} {x y : Int} (h : Bx w k x y) (hw : Below B w w') (hk : k < B) : Bx w' k x y :=
 ⟨Nat.lt_of_lt_of_le h.1 hw.size, by rw [hw.cell (p := ⟨k, 0, none⟩) hk]; exact h.2.1, by rw [hw.cell (p := ⟨k, 1, none⟩) hk]; exact h.2.2.1, by rw [hw.frozen (p := ⟨k, 0, none⟩) hk]; exact h.2.2.2.1, by rw [hw.frozen (p := ⟨k, 1, none⟩) hk]; exact h.2.2.2.2⟩
theorem Bx.below {k : Nat} {w w' : World} {x y : Int} (h : Bx w k x y) (hw : Below w.heap.size w w') : Bx w' k x y := h.belowB hw h.1
theorem Bx.alloc {k : Nat} {w : World} {x y : Int} (h : Bx w k x y) (o : Obj) : Bx (w.alloc o) k x y := h.below ((Below.refl _ _).alloc (Nat.le_refl _) _)
theorem Bx.new (w : World) (x y : Int) (T : TypeId) : Bx (w.alloc (.cells #[.int .i64 x, .int .i64 y] T)) w.heap.size x y := ⟨by simp, by simp, by simp, by simp, by simp⟩
theorem Bx.setO {k j : Nat} {w : World} {x y : Int} (h : Bx w k x y) (hk : j ≠ k) (o : Nat) (u : Value) : Bx (w.setCell ⟨j, o, none⟩ u) k x y := by
 have hne : ∀ q, (⟨j, o, none⟩ : Addr) ≠ ⟨k, q, none⟩ := fun q e => hk (congrArg Addr.block e)
 exact ⟨by simpa using h.1, by rw [World.cell?_setCell_other _ _ _ _ (hne _)]; exact h.2.1, by rw [World.cell?_setCell_other _ _ _ _ (hne _)]; exact h.2.2.1, by simpa using h.2.2.2.1, by simpa using h.2.2.2.2⟩
theorem Bx.drew {k : Nat} {w : World} {x y : Int} (h : Bx w k x y) : Bx w.drew k x y := h
theorem Below.alc (w : World) (o : Obj) : Below w.heap.size w (w.alloc o) := (Below.refl _ _).alloc (Nat.le_refl _) _
def dr (w : World) (k : Nat) (a b c d : Int) : Prop := k < w.heap.size ∧ w.cell? ⟨k, 0, none⟩ = some (.int .i64 a) ∧ w.cell? ⟨k, 1, none⟩ = some (.int .i64 b) ∧ w.cell? ⟨k, 2, none⟩ = some (.int .i64 c) ∧ w.cell? ⟨k, 3, none⟩ = some (.int .i64 d) ∧ w.frozen? ⟨k, 0, none⟩ = false ∧ w.frozen? ⟨k, 1, none⟩ = false ∧ w.frozen? ⟨k, 2, none⟩ = false ∧ w.frozen? ⟨k, 3, none⟩ = false
theorem dr.belowB {k B : Nat} {w w' : World} {a b c d : Int} (h : dr w k a b c d) (hw : Below B w w') (hk : k < B) : dr w' k a b c d := by
 obtain ⟨h0, h1, h2, h3, h4, f1, f2, f3, f4⟩ := h
 exact ⟨Nat.lt_of_lt_of_le h0 hw.size, by rw [hw.cell (p := ⟨k, 0, none⟩) hk]; exact h1, by rw [hw.cell (p := ⟨k, 1, none⟩) hk]; exact h2, by rw [hw.cell (p := ⟨k, 2, none⟩) hk]; exact h3, by rw [hw.cell (p := ⟨k, 3, none⟩) hk]; exact h4, by rw [hw.frozen (p := ⟨k, 0, none⟩) hk]; exact f1, by rw [hw.frozen (p := ⟨k, 1, none⟩) hk]; exact f2, by rw [hw.frozen (p := ⟨k, 2, none⟩) hk]; exact f3, by rw [hw.frozen (p := ⟨k, 3, none⟩) hk]; exact f4⟩
theorem dr.below {k : Nat} {w w' : World} {a b c d : Int} (h : dr w k a b c d) (hw : Below w.heap.size w w') : dr w' k a b c d := h.belowB hw h.1
theorem dr.alloc {k : Nat} {w : World} {a b c d : Int} (h : dr w k a b c d) (o : Obj) : dr (w.alloc o) k a b c d := h.below ((Below.refl _ _).alloc (Nat.le_refl _) _)
theorem dr.new (w : World) (a b c d : Int) (T : TypeId) : dr (w.alloc (.cells #[.int .i64 a, .int .i64 b, .int .i64 c, .int .i64 d] T)) w.heap.size a b c d := ⟨by simp, by simp, by simp, by simp, by simp, by simp, by simp, by simp, by simp⟩
theorem dr.drew {k : Nat} {w : World} {a b c d : Int} (h : dr w k a b c d) : dr w.drew k a b c d := h
theorem dr.setO {k j : Nat} {w : World} {a b c d : Int} (h : dr w k a b c d) (hk : j ≠ k) (o : Nat) (u : Value) : dr (w.setCell ⟨j, o, none⟩ u) k a b c d := by
 have hne : ∀ q, (⟨j, o, none⟩ : Addr) ≠ ⟨k, q, none⟩ := fun q e => hk (congrArg Addr.block e)
 obtain ⟨h0, h1, h2, h3, h4, f1, f2, f3, f4⟩ := h
 exact ⟨by simpa using h0, by rw [World.cell?_setCell_other _ _ _ _ (hne _)]; exact h1, by rw [World.cell?_setCell_other _ _ _ _ (hne _)]; exact h2, by rw [World.cell?_setCell_other _ _ _ _ (hne _)]; exact h3, by rw [World.cell?_setCell_other _ _ _ _ (hne _)]; exact h4, by simpa using f1, by simpa using f2, by simpa using f3, by simpa using f4⟩
def set4 (w : World) (k : Nat) (a b c d : Int) : World := (((w.setCell ⟨k, 0, none⟩ (.int .i64 a)).setCell ⟨k, 1, none⟩ (.int .i64 b)).setCell ⟨k, 2, none⟩ (.int .i64 c)).setCell ⟨k, 3, none⟩ (.int .i64 d)
theorem Below.set4 {B j : Nat} {w w' : World} (h : Below B w w') (hj : B ≤ j) (a b c d : Int) : Below B w (set4 w' j a b c d) := (((h.setCell hj _).setCell hj _).setCell hj _).setCell hj _
def bM (w : World) (k : Nat) (a : Bool) (b c d : Int) : Prop := k < w.heap.size ∧ w.cell? ⟨k, 0, none⟩ = some (.bool a) ∧ w.cell? ⟨k, 1, none⟩ = some (.int .i64 b) ∧ w.cell? ⟨k, 2, none⟩ = some (.int .i64 c) ∧ w.cell? ⟨k, 3, none⟩ = some (.int .i64 d) ∧ w.frozen? ⟨k, 0, none⟩ = false ∧ w.frozen? ⟨k, 1, none⟩ = false ∧ w.frozen? ⟨k, 2, none⟩ = false ∧ w.frozen? ⟨k, 3, none⟩ = false
theorem bM.belowB {k B : Nat} {w w' : World} {a : Bool} {b c d : Int} (h : bM w k a b c d) (hw : Below B w w') (hk : k < B) : bM w' k a b c d := by
 obtain ⟨h0, h1, h2, h3, h4, f1, f2, f3, f4⟩ := h
 exact ⟨Nat.lt_of_lt_of_le h0 hw.size, by rw [hw.cell (p := ⟨k, 0, none⟩) hk]; exact h1, by rw [hw.cell (p := ⟨k, 1, none⟩) hk]; exact h2, by rw [hw.cell (p := ⟨k, 2, none⟩) hk]; exact h3, by rw [hw.cell (p := ⟨k, 3, none⟩) hk]; exact h4, by rw [hw.frozen (p := ⟨k, 0, none⟩) hk]; exact f1, by rw [hw.frozen (p := ⟨k, 1, none⟩) hk]; exact f2, by rw [hw.frozen (p := ⟨k, 2, none⟩) hk]; exact f3, by rw [hw.frozen (p := ⟨k, 3, none⟩) hk]; exact f4⟩
theorem bM.below {k : Nat} {w w' : World} {a : Bool} {b c d : Int} (h : bM w k a b c d) (hw : Below w.heap.size w w') : bM w' k a b c d := h.belowB hw h.1
theorem bM.alloc {k : Nat} {w : World} {a : Bool} {b c d : Int} (h : bM w k a b c d) (o : Obj) : bM (w.alloc o) k a b c d := h.below ((Below.refl _ _).alloc (Nat.le_refl _) _)
theorem bM.new (w : World) (a : Bool) (b c d : Int) (T : TypeId) : bM (w.alloc (.cells #[.bool a, .int .i64 b, .int .i64 c, .int .i64 d] T)) w.heap.size a b c d := ⟨by simp, by simp, by simp, by simp, by simp, by simp, by simp, by simp, by simp⟩
theorem bM.drew {k : Nat} {w : World} {a : Bool} {b c d : Int} (h : bM w k a b c d) : bM w.drew k a b c d := h
theorem bM.setO {k j : Nat} {w : World} {a : Bool} {b c d : Int} (h : bM w k a b c d) (hk : j ≠ k) (o : Nat) (u : Value) : bM (w.setCell ⟨j, o, none⟩ u) k a b c d := by
 have hne : ∀ q, (⟨j, o, none⟩ : Addr) ≠ ⟨k, q, none⟩ := fun q e => hk (congrArg Addr.block e)
 obtain ⟨h0, h1, h2, h3, h4, f1, f2, f3, f4⟩ := h
 exact ⟨by simpa using h0, by rw [World.cell?_setCell_other _ _ _ _ (hne _)]; exact h1, by rw [World.cell?_setCell_other _ _ _ _ (hne _)]; exact h2, by rw [World.cell?_setCell_other _ _ _ _ (hne _)]; exact h3, by rw [World.cell?_setCell_other _ _ _ _ (hne _)]; exact h4, by simpa using f1, by simpa using f2, by simpa using f3, by simpa using f4⟩
def jl (w : World) (k : Nat) (a b : Int) : World := (w.setCell ⟨k, 0, none⟩ (.int .i64 a)).setCell ⟨k, 1, none⟩ (.int .i64 b)
theorem Bx.setI {k : Nat} {w : World} {x y : Int} (h : Bx w k x y) (x' y' : Int) : Bx (jl w k x' y') k x' y' := by
 refine ⟨by simpa [jl] using h.1, ?_, ?_, by simpa [jl] using h.2.2.2.1, by simpa [jl] using h.2.2.2.2⟩
 ·unfold jl
  rw [zO (by simp), World.cell?_setCell_same _ _ _ h.2.1]
 ·unfold jl
  exact World.cell?_setCell_same _ _ _ (by rw [zO (by simp)]; exact h.2.2.1)
theorem Bx.setIO {k j : Nat} {w : World} {x y : Int} (h : Bx w k x y) (hk : j ≠ k) (a b : Int) : Bx (jl w j a b) k x y := (h.setO hk _ _).setO hk _ _
theorem bM.setIO {k j : Nat} {w : World} {a : Bool} {b c d : Int} (h : bM w k a b c d) (hk : j ≠ k) (x y : Int) : bM (jl w j x y) k a b c d := (h.setO hk _ _).setO hk _ _
theorem Below.setI {B j : Nat} {w w' : World} (h : Below B w w') (hj : B ≤ j) (a b : Int) : Below B w (jl w' j a b) := (h.setCell hj _).setCell hj _
def okL (kn : Bool) (lo hi a : Int) : Bool := match kn with | true => okI lo hi && okT a | false => decide (lo = 0 ∧ hi = 0 ∧ a = 0)
theorem okL_t {lo hi a : Int} (h : okL true lo hi a = true) : okI lo hi = true ∧ okT a = true := by simpa [okL] using h
theorem aR (kn : Bool) (lo hi a : Int) (w : World) :
 Calls Tryz.prog 73 #[.agg #[.bool kn, .int .i64 lo, .int .i64 hi, .int .i64 a]] w fun e w' => e = .returned (.bool (okL kn lo hi a)) ∧ Below w.heap.size w w' := by
 cases kn
 ·go_enter Tryz.func73, Tryz.ntmps73
  go_wp2
  all_goals go_ret
  all_goals exact ⟨ab (by rw [Bool.eq_iff_iff]; simp [okL]; try omega), zB⟩
 cases h1 : okI lo hi <;> cases h2 : okT a
 all_goals
  go_enter Tryz.func73, Tryz.ntmps73
  go_wp2_with (first | (go_at_call 79; refine (ao _ _ _).mono ?_; rintro e w' ⟨rfl, hb⟩; obtain ⟨hc, hf⟩ := aj hb; (first | have hB := Below.trans (Below.trans hB zB) (Below.mono hb zL) | have hB := hb); obtain ⟨hC, hF⟩ := aj hB; have hz := hb.size; (try simp at hz); (first | have hz0 := zH4 w w' | have hz0 := zH3 w w' | have hz0 := zH2 w w' | have hz0 := zH1 w w' | skip)) | (go_at_call 75; refine (aw _ _).mono ?_; rintro e w' ⟨rfl, rfl⟩))
  go_ret
  exact ⟨ab (by simp [okL, *]), zB⟩
theorem oX (k : Nat) (kn : Bool) (lo hi a : Int) (w : World) (H : bM w k kn lo hi a) :
 Calls Tryz.prog 188 #[.pointer (some ⟨k, 0, none⟩)] w fun e w' => e = .returned (.bool (okL kn lo hi a)) ∧ Below w.heap.size w w' := by
 have h0 : _ ∧ _ := H
 cases kn
 ·go_enter Tryz.func188, Tryz.ntmps188
  go_wp2
  all_goals go_ret
  all_goals exact ⟨ab (by rw [Bool.eq_iff_iff]; simp [okL]; try omega), zB⟩
 cases c1 : okI lo hi <;> cases c2 : okT a
 all_goals
  go_enter Tryz.func188, Tryz.ntmps188
  go_wp2_with fail
  refine (bB _ _ _).mono ?_
  rintro e v ⟨rfl, hb⟩
  have B := hb
  obtain ⟨g0, g1, g2, g3, g4, e1, e2, e3, e4⟩ := H.below hb
  clear hb h0 H
  go_wp2_with (first | (go_at_call 127; refine (aD _ _).mono ?_; rintro e w' ⟨rfl, rfl⟩))
  go_ret
  exact ⟨ab (by simp [okL, *]), B⟩
theorem lR (kn : Bool) (lo hi a : Int) (w : World) :
 Calls Tryz.prog 35 #[.agg #[.bool kn, .int .i64 lo, .int .i64 hi, .int .i64 a]] w fun e w' => e = .returned (.agg #[.bool kn, .int .i64 lo, .int .i64 hi, .int .i64 a]) ∧ Below w.heap.size w w' := by
 have P0 := ((bM.new w kn lo hi a 34).alloc (.cells #[.bool false, .int .i64 0, .int .i64 0, .int .i64 0] 49)).alloc (.cells #[.bool kn, .int .i64 0, .int .i64 0, .int .i64 0] 49)
 have P1 := (bM.new (w.alloc (.cells #[.bool kn, .int .i64 lo, .int .i64 hi, .int .i64 a] 34)) false 0 0 0 49).alloc (.cells #[.bool kn, .int .i64 0, .int .i64 0, .int .i64 0] 49)
 have P2 := bM.new ((w.alloc (.cells #[.bool kn, .int .i64 lo, .int .i64 hi, .int .i64 a] 34)).alloc (.cells #[.bool false, .int .i64 0, .int .i64 0, .int .i64 0] 49)) kn 0 0 0 49
 simp only [World.size_alloc] at P1 P2
 go_enter Tryz.func35, Tryz.ntmps35
 go_wp2_with fail
 refine (gB _ _ _).mono ?_
 rintro e w1 ⟨rfl, hb⟩
 have hw1 : Below w.heap.size w w1 := zB
 have hs : w.heap.size + 2 < w1.heap.size := by have := hb.size; simp at this; omega
 have Q0 := P0.below hb
 have Q1 := P1.below hb
 have Q2 := P2.below hb
 clear P0 P1 P2 hb
 obtain ⟨a0, a1, a2, a3, a4, a5, a6, a7, a8⟩ := Q0
 obtain ⟨b0, b1, b2, b3, b4, b5, b6, b7, b8⟩ := Q1
 obtain ⟨c0, c1, c2, c3, c4, c5, c6, c7, c8⟩ := Q2
 go_wp2_with fail
 exact bodyPost_ret (v := .agg #[.bool kn, .int .i64 lo, .int .i64 hi, .int .i64 a]) (by simp (maxDischargeDepth := 6) [results, Tryz.results35, go_sem, *]) rfl ⟨rfl, by repeat (first | refine Below.setCell ?_ (by first | (simp; done) | (simp; omega) | omega) _ | exact hw1)⟩
theorem iR (kn : Bool) (lo hi a : Int) (w : World) :
 Calls Tryz.prog 45 #[.agg #[.bool kn, .int .i64 lo, .int .i64 hi, .int .i64 a], .agg #[.bool kn, .int .i64 lo, .int .i64 hi, .int .i64 a]] w fun e w' => e = .returned (.bool true) ∧ Below w.heap.size w w' := by
 have P0 := (bM.new w kn lo hi a 49).alloc (.cells #[.bool kn, .int .i64 lo, .int .i64 hi, .int .i64 a] 49)
 have P1 := bM.new (w.alloc (.cells #[.bool kn, .int .i64 lo, .int .i64 hi, .int .i64 a] 49)) kn lo hi a 49
 have B0 : Below w.heap.size w ((w.alloc (.cells #[.bool kn, .int .i64 lo, .int .i64 hi, .int .i64 a] 49)).alloc (.cells #[.bool kn, .int .i64 lo, .int .i64 hi, .int .i64 a] 49)) := (Below.alc _ _).alloc (by simp) _
 simp only [World.size_alloc] at P1
 go_enter Tryz.func45, Tryz.ntmps45
 go_wp2_with fail
 refine (eR _ _ _).mono ?_
 rintro e w1 ⟨rfl, hb⟩
 have B := B0.trans (hb.mono B0.size)
 obtain ⟨a0, a1, a2, a3, a4, a5, a6, a7, a8⟩ := P0.below hb
 obtain ⟨b0, b1, b2, b3, b4, b5, b6, b7, b8⟩ := P1.below hb
 clear P0 P1 hb
 go_wp2
 go_ret
 exact ⟨rfl, B⟩
end Go.Proofs.YtikbjljkakabdaaGreat
