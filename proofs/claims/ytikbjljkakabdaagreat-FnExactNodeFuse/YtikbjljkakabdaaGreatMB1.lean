/- Contracts of the functions of chapter 1 (intervals) in the specificati -/
import Derived.Test.YtikbjljkakabdaaGreatRows
import Derived.WalkKit
import Derived.WalkSpells
import Derived.WalkLawsBesides
import Derived.Test.YtikbjljkakabdaaGreatMB0
namespace Go.Proofs.YtikbjljkakabdaaGreat
open Go.RowKit
set_option linter.unusedVariables false
set_option maxRecDepth 100000
set_option maxHeartbeats 16000000
theorem di {k : IntKind} {a b : Int} (h : a = b) : Ending.returned (.int k a) = .returned (.int k b) := by rw [h]
theorem ab {a b : Bool} (h : a = b) : Ending.returned (.bool a) = .returned (.bool b) := by rw [h]
theorem aj {W w1 : World} (hb : Below W.heap.size W w1) : (∀ b o, b < W.heap.size → w1.cell? ⟨b, o, none⟩ = W.cell? ⟨b, o, none⟩) ∧ (∀ b o, b < W.heap.size → w1.frozen? ⟨b, o, none⟩ = W.frozen? ⟨b, o, none⟩) :=
 ⟨fun b o h => hb.cell (p := ⟨b, o, none⟩) h, fun b o h => hb.frozen (p := ⟨b, o, none⟩) h⟩
def okI (lo hi : Int) : Bool := decide (lo ≤ hi ∧ -1000000000000 ≤ lo ∧ hi ≤ 1000000000000)
theorem bF {lo hi : Int} (h : okI lo hi = true) : lo ≤ hi ∧ -1000000000000 ≤ lo ∧ hi ≤ 1000000000000 := of_decide_eq_true h
theorem ao (lo hi : Int) (w : World) :
 Calls Tryz.prog 79 #[.agg #[.int .i64 lo, .int .i64 hi]] w fun e w' => e = .returned (.bool (okI lo hi)) ∧ Below w.heap.size w w' := by
 go_enter Tryz.func79, Tryz.ntmps79
 go_wp2
 all_goals go_ret
 all_goals exact ⟨ab (by rw [Bool.eq_iff_iff]; simp [okI]; try omega), zB⟩
theorem bB (lo hi : Int) (w : World) :
 Calls Tryz.prog 136 #[.agg #[.int .i64 lo, .int .i64 hi]] w fun e w' => e = .returned (.bool (okI lo hi)) ∧ Below w.heap.size w w' := by
 go_enter Tryz.func136, Tryz.ntmps136
 go_wp2
 all_goals go_ret
 all_goals exact ⟨ab (by rw [Bool.eq_iff_iff]; simp [okI]; try omega), zB⟩
theorem gB (lo hi : Int) (w : World) :
 Calls Tryz.prog 81 #[.agg #[.int .i64 lo, .int .i64 hi]] w fun e w' => e = .returned (.agg #[.int .i64 lo, .int .i64 hi]) ∧ Below w.heap.size w w' := by
 go_enter Tryz.func81, Tryz.ntmps81
 go_wp2
 exact bodyPost_ret (v := .agg #[.int .i64 lo, .int .i64 hi]) (by simp [results, Tryz.results81, go_sem]) rfl ⟨rfl, zB⟩
def cO (lo hi t : Int) : Bool := okI lo hi && decide (lo ≤ t ∧ t ≤ hi)
theorem pW {lo hi t : Int} (h : okI lo hi = false) : cO lo hi t = false := by simp [cO, h]
theorem hO (lo hi t : Int) (w : World) :
 Calls Tryz.prog 201 #[.agg #[.int .i64 lo, .int .i64 hi], .int .i64 t] w fun e w' => e = .returned (.bool (cO lo hi t)) ∧ Below w.heap.size w w' := by
 cases h : okI lo hi
 ·rw [pW h]
  go_enter Tryz.func201, Tryz.ntmps201
  go_wp2_with (first | (go_at_call 79; refine (ao _ _ _).mono ?_; rintro e w' ⟨rfl, hb⟩; obtain ⟨hc, hf⟩ := aj hb; have hz := hb.size; (try simp at hz); (first | have hz0 := zH4 w w' | have hz0 := zH3 w w' | have hz0 := zH2 w w' | have hz0 := zH1 w w' | skip)) | go_in)
  go_ret
  exact ⟨rfl, zB⟩
 ·go_enter Tryz.func201, Tryz.ntmps201
  go_wp2_with (first | (go_at_call 79; refine (ao _ _ _).mono ?_; rintro e w' ⟨rfl, hb⟩; obtain ⟨hc, hf⟩ := aj hb; have hz := hb.size; (try simp at hz); (first | have hz0 := zH4 w w' | have hz0 := zH3 w w' | have hz0 := zH2 w w' | have hz0 := zH1 w w' | skip)) | go_in)
  all_goals go_ret
  all_goals exact ⟨ab (by rw [Bool.eq_iff_iff]; simp [cO, h]; try omega), zB⟩
def sel (b : Bool) (x : Int) : Int := match b with | true => x | false => 0
theorem bo {b : Bool} (h : b = true) (x : Int) : sel b x = x := by rw [h]; rfl
theorem aK {b : Bool} (h : b = false) (x : Int) : sel b x = 0 := by rw [h]; rfl
theorem db (lo hi : Int) (w : World) :
 Calls Tryz.prog 119 #[.int .i64 lo, .int .i64 hi] w fun e w' => e = .returned (.tuple #[.agg #[.int .i64 (sel (okI lo hi) lo), .int .i64 (sel (okI lo hi) hi)], .bool (okI lo hi)]) ∧ Below w.heap.size w w' := by
 cases h : okI lo hi
 ·rw [aK rfl, aK rfl]
  go_enter Tryz.func119, Tryz.ntmps119
  go_wp2_with (first | (go_at_call 79; refine (ao _ _ _).mono ?_; rintro e w' ⟨rfl, hb⟩; obtain ⟨hc, hf⟩ := aj hb; have hz := hb.size; (try simp only [World.size_alloc] at hz); (first | have hz0 := zH4 w w' | have hz0 := zH3 w w' | have hz0 := zH2 w w' | have hz0 := zH1 w w' | skip)))
  exact bodyPost_ret (v := .tuple #[.agg #[.int .i64 0, .int .i64 0], .bool false]) (by simp (maxDischargeDepth := 6) [results, Tryz.results119, go_sem, *]) rfl ⟨rfl, zB⟩
 ·rw [bo rfl, bo rfl]
  go_enter Tryz.func119, Tryz.ntmps119
  go_wp2_with (first | (go_at_call 79; refine (ao _ _ _).mono ?_; rintro e w' ⟨rfl, hb⟩; obtain ⟨hc, hf⟩ := aj hb; have hz := hb.size; (try simp only [World.size_alloc] at hz); (first | have hz0 := zH4 w w' | have hz0 := zH3 w w' | have hz0 := zH2 w w' | have hz0 := zH1 w w' | skip)))
  exact bodyPost_ret (v := .tuple #[.agg #[.int .i64 lo, .int .i64 hi], .bool true]) (by simp (maxDischargeDepth := 6) [results, Tryz.results119, go_sem, *]) rfl ⟨rfl, zB⟩
theorem bR (lo hi : Int) (w : World) :
 Calls Tryz.prog 184 #[.agg #[.int .i64 lo, .int .i64 hi]] w fun e w' => e = .returned (.tuple #[.agg #[.int .i64 (sel (okI lo hi) lo), .int .i64 (sel (okI lo hi) hi)], .bool (okI lo hi)]) ∧ Below w.heap.size w w' := by
 cases h : okI lo hi
 ·rw [aK rfl, aK rfl]
  go_enter Tryz.func184, Tryz.ntmps184
  go_wp2_with (first | (go_at_call 136; refine (bB _ _ _).mono ?_; rintro e w' ⟨rfl, hb⟩; obtain ⟨hc, hf⟩ := aj hb; have hz := hb.size; (try simp only [World.size_alloc] at hz); (first | have hz0 := zH4 w w' | have hz0 := zH3 w w' | have hz0 := zH2 w w' | have hz0 := zH1 w w' | skip)))
  exact bodyPost_ret (v := .tuple #[.agg #[.int .i64 0, .int .i64 0], .bool false]) (by simp (maxDischargeDepth := 6) [results, Tryz.results184, go_sem, *]) rfl ⟨rfl, zB⟩
 ·rw [bo rfl, bo rfl]
  go_enter Tryz.func184, Tryz.ntmps184
  go_wp2_with (first | (go_at_call 136; refine (bB _ _ _).mono ?_; rintro e w' ⟨rfl, hb⟩; obtain ⟨hc, hf⟩ := aj hb; have hz := hb.size; (try simp only [World.size_alloc] at hz); (first | have hz0 := zH4 w w' | have hz0 := zH3 w w' | have hz0 := zH2 w w' | have hz0 := zH1 w w' | skip)))
  exact bodyPost_ret (v := .tuple #[.agg #[.int .i64 lo, .int .i64 hi], .bool true]) (by simp (maxDischargeDepth := 6) [results, Tryz.results184, go_sem, *]) rfl ⟨rfl, zB⟩
theorem eR (lo hi : Int) (w : World) :
 Calls Tryz.prog 93 #[.agg #[.int .i64 lo, .int .i64 hi], .agg #[.int .i64 lo, .int .i64 hi]] w fun e w' => e = .returned (.bool true) ∧ Below w.heap.size w w' := by
 go_enter Tryz.func93, Tryz.ntmps93
 go_wp2
 go_ret
 exact ⟨rfl, zB⟩
def imn (x y : Int) : Int := if y < x then y else x
def imx (x y : Int) : Int := if y < x then x else y
theorem imn_l {x y : Int} (h : y < x) : imn x y = y := by simp [imn, h]
theorem rL {x y : Int} (h : ¬ y < x) : imn x y = x := by simp [imn, h]
theorem rM {x y : Int} (h : y < x) : imx x y = x := by simp [imx, h]
theorem p8 {x y : Int} (h : ¬ y < x) : imx x y = y := by simp [imx, h]
theorem kw (x y : Int) : imn x y = imn y x := by unfold imn; split <;> split <;> omega
theorem kF (x y : Int) : imx x y = imx y x := by unfold imx; split <;> split <;> omega
theorem gq (x y : Int) (w : World) :
 Calls Tryz.prog 206 #[.int .i64 x, .int .i64 y] w fun e w' => e = .returned (.tuple #[.int .i64 (imn x y), .int .i64 (imx x y)]) ∧ w = w' := by
 by_cases h : y < x
 ·rw [imn_l h, rM h]
  go_enter Tryz.func206, Tryz.ntmps206
  go_wp2
  go_ret2
  exact ⟨rfl, rfl⟩
 ·rw [rL h, p8 h]
  go_enter Tryz.func206, Tryz.ntmps206
  go_wp2
  go_ret2
  exact ⟨rfl, rfl⟩
theorem ir (x y : Int) (w : World) :
 Calls Tryz.prog 141 #[.int .i64 x, .int .i64 y] w fun e w' => e = .returned (.int .i64 (imx x y)) ∧ w = w' := by
 go_enter Tryz.func141, Tryz.ntmps141
 go_wp2
 all_goals go_ret
 all_goals exact ⟨di (by first | rw [rM (by omega)] | rw [p8 (by omega)]), rfl⟩
theorem iu (x y : Int) (w : World) :
 Calls Tryz.prog 142 #[.int .i64 x, .int .i64 y] w fun e w' => e = .returned (.int .i64 (imn x y)) ∧ w = w' := by
 go_enter Tryz.func142, Tryz.ntmps142
 go_wp2
 all_goals go_ret
 all_goals exact ⟨di (by unfold imn; split <;> omega), rfl⟩
theorem gl (al ah bl bh : Int) (w : World) :
 Calls Tryz.prog 183 #[.agg #[.int .i64 al, .int .i64 ah], .agg #[.int .i64 bl, .int .i64 bh]] w fun e w' => e = .returned (.agg #[.int .i64 (imx al bl), .int .i64 (imn ah bh)]) ∧ Below w.heap.size w w' := by
 go_enter Tryz.func183, Tryz.ntmps183
 go_wp2_with (first | (go_at_call 206; refine (gq _ _ _).mono ?_; rintro e w' ⟨rfl, rfl⟩))
 exact bodyPost_ret (v := .agg #[.int .i64 (imx al bl), .int .i64 (imn ah bh)]) (by simp (maxDischargeDepth := 6) [results, Tryz.results183, go_sem, *]) rfl ⟨rfl, zB⟩
theorem fS (al ah bl bh : Int) (w : World) :
 Calls Tryz.prog 218 #[.agg #[.int .i64 al, .int .i64 ah], .agg #[.int .i64 bl, .int .i64 bh]] w fun e w' => e = .returned (.agg #[.int .i64 (imn al bl), .int .i64 (imx ah bh)]) ∧ Below w.heap.size w w' := by
 go_enter Tryz.func218, Tryz.ntmps218
 go_wp2_with (first | (go_at_call 206; refine (gq _ _ _).mono ?_; rintro e w' ⟨rfl, rfl⟩))
 exact bodyPost_ret (v := .agg #[.int .i64 (imn al bl), .int .i64 (imx ah bh)]) (by simp (maxDischargeDepth := 6) [results, Tryz.results218, go_sem, *]) rfl ⟨rfl, zB⟩
def aY (al ah bl bh : Int) : Bool := okI al ah && okI bl bh
theorem sw {al ah bl bh : Int} (h : aY al ah bl bh = true) : okI al ah = true ∧ okI bl bh = true := by simpa [aY] using h
theorem br (al ah bl bh : Int) (w : World) :
 Calls Tryz.prog 182 #[.agg #[.int .i64 al, .int .i64 ah], .agg #[.int .i64 bl, .int .i64 bh]] w fun e w' => e = .returned (.bool (aY al ah bl bh)) ∧ Below w.heap.size w w' := by
 cases h : okI al ah
 ·go_enter Tryz.func182, Tryz.ntmps182
  go_wp2_with (first | (go_at_call 136; refine (bB _ _ _).mono ?_; rintro e w' ⟨rfl, hb⟩; obtain ⟨hc, hf⟩ := aj hb; have hz := hb.size; (try simp only [World.size_alloc] at hz); (first | have hz0 := zH4 w w' | have hz0 := zH3 w w' | have hz0 := zH2 w w' | have hz0 := zH1 w w' | skip)))
  go_ret
  exact ⟨ab (by simp [aY, h]), zB⟩
 ·go_enter Tryz.func182, Tryz.ntmps182
  go_wp2_with (first | (go_at_call 136; refine (bB _ _ _).mono ?_; rintro e w' ⟨rfl, hb⟩; obtain ⟨hc, hf⟩ := aj hb; have hz := hb.size; (try simp only [World.size_alloc] at hz); (first | have hz0 := zH4 w w' | have hz0 := zH3 w w' | have hz0 := zH2 w w' | have hz0 := zH1 w w' | skip)))
  go_ret
  exact ⟨ab (by simp [aY, h]), zB⟩
def aZ (al ah bl bh : Int) : Bool := aY al ah bl bh && okI (imx al bl) (imn ah bh)
def aU (al ah bl bh : Int) : Bool := aY al ah bl bh
def bv (al ah bl bh : Int) : Bool := aY al ah bl bh && okI (al + bl) (ah + bh)
theorem rc {al ah bl bh : Int} (h : aY al ah bl bh = true) : okI (imn al bl) (imx ah bh) = true := by
 have ⟨h1, h2⟩ := sw h
 have ⟨a1, a2, a3⟩ := bF h1
 have ⟨b1, b2, b3⟩ := bF h2
 have : imn al bl ≤ imx ah bh ∧ -1000000000000 ≤ imn al bl ∧ imx ah bh ≤ 1000000000000 := by unfold imn imx; split <;> split <;> omega
 exact decide_eq_true this
theorem eK (al ah bl bh : Int) (w : World) :
 Calls Tryz.prog 77 #[.agg #[.int .i64 al, .int .i64 ah], .agg #[.int .i64 bl, .int .i64 bh]] w fun e w' => e = .returned (.tuple #[.agg #[.int .i64 (sel (bv al ah bl bh) (al + bl)), .int .i64 (sel (bv al ah bl bh) (ah + bh))], .bool (bv al ah bl bh)]) ∧ Below w.heap.size w w' := by
 cases ha : okI al ah
 ·have e : bv al ah bl bh = false := by simp [bv, aY, ha]
  have hB : aY al ah bl bh = false := by simp [aY, ha]
  rw [e, aK rfl, aK rfl]; clear e
  go_enter Tryz.func77, Tryz.ntmps77
  go_wp2_with (first | (go_at_call 79; refine (ao _ _ _).mono ?_; rintro e w' ⟨rfl, hb⟩; obtain ⟨hc, hf⟩ := aj hb; have hz := hb.size; (try simp only [World.size_alloc] at hz); (first | have hz0 := zH4 w w' | have hz0 := zH3 w w' | have hz0 := zH2 w w' | have hz0 := zH1 w w' | skip)) | (go_at_call 119; refine (db _ _ _).mono ?_; rintro e w' ⟨rfl, hb⟩; obtain ⟨hc, hf⟩ := aj hb; have hz := hb.size; (try simp only [World.size_alloc] at hz); (first | have hz0 := zH4 w w' | have hz0 := zH3 w w' | have hz0 := zH2 w w' | have hz0 := zH1 w w' | skip)))
  exact bodyPost_ret (v := .tuple #[.agg #[.int .i64 0, .int .i64 0], .bool false]) (by simp (maxDischargeDepth := 6) [results, Tryz.results77, go_sem, *]) rfl ⟨rfl, zB⟩
 cases hb : okI bl bh
 ·have e : bv al ah bl bh = false := by simp [bv, aY, hb]
  have hB : aY al ah bl bh = false := by simp [aY, hb]
  rw [e, aK rfl, aK rfl]; clear e
  go_enter Tryz.func77, Tryz.ntmps77
  go_wp2_with (first | (go_at_call 79; refine (ao _ _ _).mono ?_; rintro e w' ⟨rfl, hb⟩; obtain ⟨hc, hf⟩ := aj hb; have hz := hb.size; (try simp only [World.size_alloc] at hz); (first | have hz0 := zH4 w w' | have hz0 := zH3 w w' | have hz0 := zH2 w w' | have hz0 := zH1 w w' | skip)) | (go_at_call 119; refine (db _ _ _).mono ?_; rintro e w' ⟨rfl, hb⟩; obtain ⟨hc, hf⟩ := aj hb; have hz := hb.size; (try simp only [World.size_alloc] at hz); (first | have hz0 := zH4 w w' | have hz0 := zH3 w w' | have hz0 := zH2 w w' | have hz0 := zH1 w w' | skip)))
  exact bodyPost_ret (v := .tuple #[.agg #[.int .i64 0, .int .i64 0], .bool false]) (by simp (maxDischargeDepth := 6) [results, Tryz.results77, go_sem, *]) rfl ⟨rfl, zB⟩
 have hB : aY al ah bl bh = true := by simp [aY, ha, hb]
 have e : bv al ah bl bh = okI (al + bl) (ah + bh) := by simp [bv, hB]
 rw [e]; clear e
 have ⟨a1, a2, a3⟩ := bF ha
 have ⟨b1, b2, b3⟩ := bF hb
 go_enter Tryz.func77, Tryz.ntmps77
 go_wp2_with (first | (go_at_call 79; refine (ao _ _ _).mono ?_; rintro e w' ⟨rfl, hb⟩; obtain ⟨hc, hf⟩ := aj hb; have hz := hb.size; (try simp only [World.size_alloc] at hz); (first | have hz0 := zH4 w w' | have hz0 := zH3 w w' | have hz0 := zH2 w w' | have hz0 := zH1 w w' | skip)) | (go_at_call 119; refine (db _ _ _).mono ?_; rintro e w' ⟨rfl, hb⟩; obtain ⟨hc, hf⟩ := aj hb; have hz := hb.size; (try simp only [World.size_alloc] at hz); (first | have hz0 := zH4 w w' | have hz0 := zH3 w w' | have hz0 := zH2 w w' | have hz0 := zH1 w w' | skip)))
 exact bodyPost_ret (v := .tuple #[.agg #[.int .i64 (sel (okI (al + bl) (ah + bh)) (al + bl)), .int .i64 (sel (okI (al + bl) (ah + bh)) (ah + bh))], .bool (okI (al + bl) (ah + bh))]) (by simp (maxDischargeDepth := 6) [results, Tryz.results77, go_sem, *]) rfl ⟨rfl, zB⟩
theorem eA (al ah bl bh : Int) (w : World) :
 Calls Tryz.prog 197 #[.agg #[.int .i64 al, .int .i64 ah], .agg #[.int .i64 bl, .int .i64 bh]] w fun e w' => e = .returned (.tuple #[.agg #[.int .i64 (sel (bv al ah bl bh) (al + bl)), .int .i64 (sel (bv al ah bl bh) (ah + bh))], .bool (bv al ah bl bh)]) ∧ Below w.heap.size w w' := by
 cases ha : okI al ah
 ·have e : bv al ah bl bh = false := by simp [bv, aY, ha]
  have hB : aY al ah bl bh = false := by simp [aY, ha]
  rw [e, aK rfl, aK rfl]; clear e
  go_enter Tryz.func197, Tryz.ntmps197
  go_wp2_with (first | (go_at_call 182; refine (br _ _ _ _ _).mono ?_; rintro e w' ⟨rfl, hb⟩; obtain ⟨hc, hf⟩ := aj hb; have hz := hb.size; (try simp only [World.size_alloc] at hz); (first | have hz0 := zH4 w w' | have hz0 := zH3 w w' | have hz0 := zH2 w w' | have hz0 := zH1 w w' | skip)) | (go_at_call 184; refine (bR _ _ _).mono ?_; rintro e w' ⟨rfl, hb⟩; obtain ⟨hc, hf⟩ := aj hb; have hz := hb.size; (try simp only [World.size_alloc] at hz); (first | have hz0 := zH4 w w' | have hz0 := zH3 w w' | have hz0 := zH2 w w' | have hz0 := zH1 w w' | skip)))
  exact bodyPost_ret (v := .tuple #[.agg #[.int .i64 0, .int .i64 0], .bool false]) (by simp (maxDischargeDepth := 6) [results, Tryz.results197, go_sem, *]) rfl ⟨rfl, zB⟩
 cases hb : okI bl bh
 ·have e : bv al ah bl bh = false := by simp [bv, aY, hb]
  have hB : aY al ah bl bh = false := by simp [aY, hb]
  rw [e, aK rfl, aK rfl]; clear e
  go_enter Tryz.func197, Tryz.ntmps197
  go_wp2_with (first | (go_at_call 182; refine (br _ _ _ _ _).mono ?_; rintro e w' ⟨rfl, hb⟩; obtain ⟨hc, hf⟩ := aj hb; have hz := hb.size; (try simp only [World.size_alloc] at hz); (first | have hz0 := zH4 w w' | have hz0 := zH3 w w' | have hz0 := zH2 w w' | have hz0 := zH1 w w' | skip)) | (go_at_call 184; refine (bR _ _ _).mono ?_; rintro e w' ⟨rfl, hb⟩; obtain ⟨hc, hf⟩ := aj hb; have hz := hb.size; (try simp only [World.size_alloc] at hz); (first | have hz0 := zH4 w w' | have hz0 := zH3 w w' | have hz0 := zH2 w w' | have hz0 := zH1 w w' | skip)))
  exact bodyPost_ret (v := .tuple #[.agg #[.int .i64 0, .int .i64 0], .bool false]) (by simp (maxDischargeDepth := 6) [results, Tryz.results197, go_sem, *]) rfl ⟨rfl, zB⟩
 have hB : aY al ah bl bh = true := by simp [aY, ha, hb]
 have e : bv al ah bl bh = okI (al + bl) (ah + bh) := by simp [bv, hB]
 rw [e]; clear e
 have ⟨a1, a2, a3⟩ := bF ha
 have ⟨b1, b2, b3⟩ := bF hb
 go_enter Tryz.func197, Tryz.ntmps197
 go_wp2_with (first | (go_at_call 182; refine (br _ _ _ _ _).mono ?_; rintro e w' ⟨rfl, hb⟩; obtain ⟨hc, hf⟩ := aj hb; have hz := hb.size; (try simp only [World.size_alloc] at hz); (first | have hz0 := zH4 w w' | have hz0 := zH3 w w' | have hz0 := zH2 w w' | have hz0 := zH1 w w' | skip)) | (go_at_call 184; refine (bR _ _ _).mono ?_; rintro e w' ⟨rfl, hb⟩; obtain ⟨hc, hf⟩ := aj hb; have hz := hb.size; (try simp only [World.size_alloc] at hz); (first | have hz0 := zH4 w w' | have hz0 := zH3 w w' | have hz0 := zH2 w w' | have hz0 := zH1 w w' | skip)))
 exact bodyPost_ret (v := .tuple #[.agg #[.int .i64 (sel (okI (al + bl) (ah + bh)) (al + bl)), .int .i64 (sel (okI (al + bl) (ah + bh)) (ah + bh))], .bool (okI (al + bl) (ah + bh))]) (by simp (maxDischargeDepth := 6) [results, Tryz.results197, go_sem, *]) rfl ⟨rfl, zB⟩
end Go.Proofs.YtikbjljkakabdaaGreat
