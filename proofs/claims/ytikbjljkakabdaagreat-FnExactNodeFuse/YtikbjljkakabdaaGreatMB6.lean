/- Contracts of Meet and Join. impl.JoinAll and spec.JoinAll of a slice w -/
import Derived.Test.YtikbjljkakabdaaGreatMB0
import Derived.Test.YtikbjljkakabdaaGreatMB5
namespace Go.Proofs.YtikbjljkakabdaaGreat
open Go.RowKit
set_option linter.unusedVariables false
set_option maxRecDepth 100000
set_option maxHeartbeats 16000000
theorem eh (al ah bl bh : Int) (w : World) :
 Calls Tryz.prog 104 #[.agg #[.int .i64 al, .int .i64 ah], .agg #[.int .i64 bl, .int .i64 bh]] w fun e w' => e = .returned (.tuple #[.agg #[.int .i64 (sel (aZ al ah bl bh) (imx al bl)), .int .i64 (sel (aZ al ah bl bh) (imn ah bh))], .bool (aZ al ah bl bh)]) ∧ Below w.heap.size w w' := by
 cases ha : okI al ah
 ·have e : aZ al ah bl bh = false := by simp [aZ, aY, ha]
  rw [e, aK rfl, aK rfl]; clear e
  go_enter Tryz.func104, Tryz.ntmps104
  go_wp2_with (first | (go_at_call 79; refine (ao _ _ _).mono ?_; rintro e w' ⟨rfl, hb⟩; obtain ⟨hc, hf⟩ := aj hb; (first | have hB := Below.trans (Below.trans hB zB) (Below.mono hb zL) | have hB := hb); obtain ⟨hC, hF⟩ := aj hB; have hz := hb.size; (try simp at hz); (first | have hz0 := zH4 w w' | have hz0 := zH3 w w' | have hz0 := zH2 w w' | have hz0 := zH1 w w' | skip)))
  exact bodyPost_ret (v := .tuple #[.agg #[.int .i64 0, .int .i64 0], .bool false]) (by simp (maxDischargeDepth := 6) [results, Tryz.results104, go_sem, *]) rfl ⟨rfl, zB⟩
 cases hbb : okI bl bh
 ·have e : aZ al ah bl bh = false := by simp [aZ, aY, hbb]
  rw [e, aK rfl, aK rfl]; clear e
  go_enter Tryz.func104, Tryz.ntmps104
  go_wp2_with (first | (go_at_call 79; refine (ao _ _ _).mono ?_; rintro e w' ⟨rfl, hb⟩; obtain ⟨hc, hf⟩ := aj hb; (first | have hB := Below.trans (Below.trans hB zB) (Below.mono hb zL) | have hB := hb); obtain ⟨hC, hF⟩ := aj hB; have hz := hb.size; (try simp at hz); (first | have hz0 := zH4 w w' | have hz0 := zH3 w w' | have hz0 := zH2 w w' | have hz0 := zH1 w w' | skip)))
  exact bodyPost_ret (v := .tuple #[.agg #[.int .i64 0, .int .i64 0], .bool false]) (by simp (maxDischargeDepth := 6) [results, Tryz.results104, go_sem, *]) rfl ⟨rfl, zB⟩
 have e : aZ al ah bl bh = okI (imx al bl) (imn ah bh) := by simp [aZ, aY, ha, hbb]
 rw [e]; clear e
 go_enter Tryz.func104, Tryz.ntmps104
 go_wp2_with (first | (go_at_call 79; refine (ao _ _ _).mono ?_; rintro e w' ⟨rfl, hb⟩; obtain ⟨hc, hf⟩ := aj hb; (first | have hB := Below.trans (Below.trans hB zB) (Below.mono hb zL) | have hB := hb); obtain ⟨hC, hF⟩ := aj hB; have hz := hb.size; (try simp at hz); (first | have hz0 := zH4 w w' | have hz0 := zH3 w w' | have hz0 := zH2 w w' | have hz0 := zH1 w w' | skip)))
 go_region_held (fun w' => w'.cell? ⟨w.heap.size, 0, none⟩ = some (.int .i64 al) ∧ w'.cell? ⟨w.heap.size, 1, none⟩ = some (.int .i64 ah) ∧ w'.cell? ⟨w.heap.size + 1, 0, none⟩ = some (.int .i64 bl) ∧ w'.cell? ⟨w.heap.size + 1, 1, none⟩ = some (.int .i64 bh)) (simp (maxDischargeDepth := 6) [go_sem, *]) (first | (go_at_call 141; refine (ir _ _ _).mono ?_; rintro e w' ⟨rfl, rfl⟩) | (go_at_call 142; refine (iu _ _ _).mono ?_; rintro e w' ⟨rfl, rfl⟩) | (go_at_call 119; refine (db _ _ _).mono ?_; rintro e w' ⟨rfl, hb⟩; obtain ⟨hc, hf⟩ := aj hb; (first | have hB := Below.trans (Below.trans hB zB) (Below.mono hb zL) | have hB := hb); obtain ⟨hC, hF⟩ := aj hB; have hz := hb.size; (try simp at hz); (first | have hz0 := zH4 w w' | have hz0 := zH3 w w' | have hz0 := zH2 w w' | have hz0 := zH1 w w' | skip)))
 all_goals go_wp2
 all_goals exact bodyPost_ret (v := .tuple #[.agg #[.int .i64 (sel (okI (imx al bl) (imn ah bh)) (imx al bl)), .int .i64 (sel (okI (imx al bl) (imn ah bh)) (imn ah bh))], .bool (okI (imx al bl) (imn ah bh))]) (by simp (maxDischargeDepth := 6) [results, Tryz.results104, go_sem, *]) rfl ⟨rfl, zB⟩
theorem da (al ah bl bh : Int) (w : World) :
 Calls Tryz.prog 148 #[.agg #[.int .i64 al, .int .i64 ah], .agg #[.int .i64 bl, .int .i64 bh]] w fun e w' => e = .returned (.tuple #[.agg #[.int .i64 (sel (aZ al ah bl bh) (imx al bl)), .int .i64 (sel (aZ al ah bl bh) (imn ah bh))], .bool (aZ al ah bl bh)]) ∧ Below w.heap.size w w' := by
 cases ha : okI al ah
 ·have e : aZ al ah bl bh = false := by simp [aZ, aY, ha]
  have hB : aY al ah bl bh = false := by simp [aY, ha]
  rw [e, aK rfl, aK rfl]; clear e
  go_enter Tryz.func148, Tryz.ntmps148
  go_wp2_with (first | (go_at_call 182; refine (br _ _ _ _ _).mono ?_; rintro e w' ⟨rfl, hb⟩; obtain ⟨hc, hf⟩ := aj hb; have hz := hb.size; (try simp at hz); (first | have hz0 := zH4 w w' | have hz0 := zH3 w w' | have hz0 := zH2 w w' | have hz0 := zH1 w w' | skip)) | (go_at_call 183; refine (gl _ _ _ _ _).mono ?_; rintro e w' ⟨rfl, hb⟩; obtain ⟨hc, hf⟩ := aj hb; have hz := hb.size; (try simp at hz); (first | have hz0 := zH4 w w' | have hz0 := zH3 w w' | have hz0 := zH2 w w' | have hz0 := zH1 w w' | skip)) | (go_at_call 184; refine (bR _ _ _).mono ?_; rintro e w' ⟨rfl, hb⟩; obtain ⟨hc, hf⟩ := aj hb; have hz := hb.size; (try simp at hz); (first | have hz0 := zH4 w w' | have hz0 := zH3 w w' | have hz0 := zH2 w w' | have hz0 := zH1 w w' | skip)))
  exact bodyPost_ret (v := .tuple #[.agg #[.int .i64 0, .int .i64 0], .bool false]) (by simp (maxDischargeDepth := 6) [results, Tryz.results148, go_sem, *]) rfl ⟨rfl, zB⟩
 cases hb : okI bl bh
 ·have e : aZ al ah bl bh = false := by simp [aZ, aY, hb]
  have hB : aY al ah bl bh = false := by simp [aY, hb]
  rw [e, aK rfl, aK rfl]; clear e
  go_enter Tryz.func148, Tryz.ntmps148
  go_wp2_with (first | (go_at_call 182; refine (br _ _ _ _ _).mono ?_; rintro e w' ⟨rfl, hb⟩; obtain ⟨hc, hf⟩ := aj hb; have hz := hb.size; (try simp at hz); (first | have hz0 := zH4 w w' | have hz0 := zH3 w w' | have hz0 := zH2 w w' | have hz0 := zH1 w w' | skip)) | (go_at_call 183; refine (gl _ _ _ _ _).mono ?_; rintro e w' ⟨rfl, hb⟩; obtain ⟨hc, hf⟩ := aj hb; have hz := hb.size; (try simp at hz); (first | have hz0 := zH4 w w' | have hz0 := zH3 w w' | have hz0 := zH2 w w' | have hz0 := zH1 w w' | skip)) | (go_at_call 184; refine (bR _ _ _).mono ?_; rintro e w' ⟨rfl, hb⟩; obtain ⟨hc, hf⟩ := aj hb; have hz := hb.size; (try simp at hz); (first | have hz0 := zH4 w w' | have hz0 := zH3 w w' | have hz0 := zH2 w w' | have hz0 := zH1 w w' | skip)))
  exact bodyPost_ret (v := .tuple #[.agg #[.int .i64 0, .int .i64 0], .bool false]) (by simp (maxDischargeDepth := 6) [results, Tryz.results148, go_sem, *]) rfl ⟨rfl, zB⟩
 have hB : aY al ah bl bh = true := by simp [aY, ha, hb]
 have e : aZ al ah bl bh = okI (imx al bl) (imn ah bh) := by simp [aZ, hB]
 rw [e]; clear e
 have ⟨a1, a2, a3⟩ := bF ha
 have ⟨b1, b2, b3⟩ := bF hb
 go_enter Tryz.func148, Tryz.ntmps148
 go_wp2_with (first | (go_at_call 182; refine (br _ _ _ _ _).mono ?_; rintro e w' ⟨rfl, hb⟩; obtain ⟨hc, hf⟩ := aj hb; have hz := hb.size; (try simp at hz); (first | have hz0 := zH4 w w' | have hz0 := zH3 w w' | have hz0 := zH2 w w' | have hz0 := zH1 w w' | skip)) | (go_at_call 183; refine (gl _ _ _ _ _).mono ?_; rintro e w' ⟨rfl, hb⟩; obtain ⟨hc, hf⟩ := aj hb; have hz := hb.size; (try simp at hz); (first | have hz0 := zH4 w w' | have hz0 := zH3 w w' | have hz0 := zH2 w w' | have hz0 := zH1 w w' | skip)) | (go_at_call 184; refine (bR _ _ _).mono ?_; rintro e w' ⟨rfl, hb⟩; obtain ⟨hc, hf⟩ := aj hb; have hz := hb.size; (try simp at hz); (first | have hz0 := zH4 w w' | have hz0 := zH3 w w' | have hz0 := zH2 w w' | have hz0 := zH1 w w' | skip)))
 exact bodyPost_ret (v := .tuple #[.agg #[.int .i64 (sel (okI (imx al bl) (imn ah bh)) (imx al bl)), .int .i64 (sel (okI (imx al bl) (imn ah bh)) (imn ah bh))], .bool (okI (imx al bl) (imn ah bh))]) (by simp (maxDischargeDepth := 6) [results, Tryz.results148, go_sem, *]) rfl ⟨rfl, zB⟩
theorem i5 (al ah bl bh : Int) (w : World) :
 Calls Tryz.prog 204 #[.agg #[.int .i64 al, .int .i64 ah], .agg #[.int .i64 bl, .int .i64 bh]] w fun e w' => e = .returned (.tuple #[.agg #[.int .i64 (sel (aU al ah bl bh) (imn al bl)), .int .i64 (sel (aU al ah bl bh) (imx ah bh))], .bool (aU al ah bl bh)]) ∧ Below w.heap.size w w' := by
 cases ha : okI al ah
 ·have e : aU al ah bl bh = false := by simp [aU, aY, ha]
  have hB : aY al ah bl bh = false := by simp [aY, ha]
  rw [e, aK rfl, aK rfl]; clear e
  go_enter Tryz.func204, Tryz.ntmps204
  go_wp2_with (first | (go_at_call 182; refine (br _ _ _ _ _).mono ?_; rintro e w' ⟨rfl, hb⟩; obtain ⟨hc, hf⟩ := aj hb; have hz := hb.size; (try simp at hz); (first | have hz0 := zH4 w w' | have hz0 := zH3 w w' | have hz0 := zH2 w w' | have hz0 := zH1 w w' | skip)) | (go_at_call 218; refine (fS _ _ _ _ _).mono ?_; rintro e w' ⟨rfl, hb⟩; obtain ⟨hc, hf⟩ := aj hb; have hz := hb.size; (try simp at hz); (first | have hz0 := zH4 w w' | have hz0 := zH3 w w' | have hz0 := zH2 w w' | have hz0 := zH1 w w' | skip)))
  exact bodyPost_ret (v := .tuple #[.agg #[.int .i64 0, .int .i64 0], .bool false]) (by simp (maxDischargeDepth := 6) [results, Tryz.results204, go_sem, *]) rfl ⟨rfl, zB⟩
 cases hb : okI bl bh
 ·have e : aU al ah bl bh = false := by simp [aU, aY, hb]
  have hB : aY al ah bl bh = false := by simp [aY, hb]
  rw [e, aK rfl, aK rfl]; clear e
  go_enter Tryz.func204, Tryz.ntmps204
  go_wp2_with (first | (go_at_call 182; refine (br _ _ _ _ _).mono ?_; rintro e w' ⟨rfl, hb⟩; obtain ⟨hc, hf⟩ := aj hb; have hz := hb.size; (try simp at hz); (first | have hz0 := zH4 w w' | have hz0 := zH3 w w' | have hz0 := zH2 w w' | have hz0 := zH1 w w' | skip)) | (go_at_call 218; refine (fS _ _ _ _ _).mono ?_; rintro e w' ⟨rfl, hb⟩; obtain ⟨hc, hf⟩ := aj hb; have hz := hb.size; (try simp at hz); (first | have hz0 := zH4 w w' | have hz0 := zH3 w w' | have hz0 := zH2 w w' | have hz0 := zH1 w w' | skip)))
  exact bodyPost_ret (v := .tuple #[.agg #[.int .i64 0, .int .i64 0], .bool false]) (by simp (maxDischargeDepth := 6) [results, Tryz.results204, go_sem, *]) rfl ⟨rfl, zB⟩
 have hB : aY al ah bl bh = true := by simp [aY, ha, hb]
 have hj := rc hB
 have e : aU al ah bl bh = true := hB
 rw [e, bo rfl, bo rfl]; clear e
 have ⟨a1, a2, a3⟩ := bF ha
 have ⟨b1, b2, b3⟩ := bF hb
 go_enter Tryz.func204, Tryz.ntmps204
 go_wp2_with (first | (go_at_call 182; refine (br _ _ _ _ _).mono ?_; rintro e w' ⟨rfl, hb⟩; obtain ⟨hc, hf⟩ := aj hb; have hz := hb.size; (try simp at hz); (first | have hz0 := zH4 w w' | have hz0 := zH3 w w' | have hz0 := zH2 w w' | have hz0 := zH1 w w' | skip)) | (go_at_call 218; refine (fS _ _ _ _ _).mono ?_; rintro e w' ⟨rfl, hb⟩; obtain ⟨hc, hf⟩ := aj hb; have hz := hb.size; (try simp at hz); (first | have hz0 := zH4 w w' | have hz0 := zH3 w w' | have hz0 := zH2 w w' | have hz0 := zH1 w w' | skip)))
 exact bodyPost_ret (v := .tuple #[.agg #[.int .i64 (imn al bl), .int .i64 (imx ah bh)], .bool true]) (by simp (maxDischargeDepth := 6) [results, Tryz.results204, go_sem, *]) rfl ⟨rfl, zB⟩
theorem ii (b off n c : Nat) (f : Nat → Int × Int) (w : World) (h1 : 1 ≤ n) (h2 : 2 ≤ n) (hn : n ≤ 64) (hnc : n ≤ c) (hcm : c ≤ maxLen) (hf : Prs w b off n f) :
 Calls Tryz.prog 203 #[.slice (some ⟨b, off, none⟩) n c, .func (.func 204) #[] #[]] w fun e w' => e = .returned (.tuple #[.agg #[.int .i64 (acc aU imn imx f (n - 1)).2.1, .int .i64 (acc aU imn imx f (n - 1)).2.2], .bool (acc aU imn imx f (n - 1)).1]) ∧ Below w.heap.size w w' := by
 have d1 : decide ((n : Int) < 1) = false := by simp; omega
 have d2 : decide (64 < (n : Int)) = false := by simp; omega
 have hn0 : (0 : Int) < (n : Int) := by omega
 have hn1 : (1 : Int) ≤ (n : Int) := by omega
 have hx1 : ¬ c = 1 := by omega
 have hx2 : ¬ c - 1 = 0 := by omega
 have hx3 : 1 < c := by omega
 have hx4 : (n : Int) ≤ (c : Int) := by omega
 unfold maxLen at hcm
 have hbw : b < w.heap.size := hf.1
 have l0 : w.cell? ⟨b, off, none⟩ = some (.int .i64 (f 0).1) := by have := (hf.2 0 (by omega)).1; simpa using this
 have l1 : w.cell? ⟨b, off + 1, none⟩ = some (.int .i64 (f 0).2) := by have := (hf.2 0 (by omega)).2; simpa using this
 go_enter Tryz.func203, Tryz.ntmps203
 go_wp2_with fail
 refine (bR _ _ _).mono ?_
 rintro e w1 ⟨rfl, hb⟩
 have s1 : w.heap.size + 1 ≤ w1.heap.size := by have := hb.size; simpa using this
 have r0 : w1.cell? ⟨w.heap.size, 0, none⟩ = some (.int .i64 0) := by rw [hb.cell (by simp)]; simp [go_sem]
 have r1 : w1.cell? ⟨w.heap.size, 1, none⟩ = some (.int .i64 0) := by rw [hb.cell (by simp)]; simp [go_sem]
 have q0 : w1.frozen? ⟨w.heap.size, 0, none⟩ = false := by rw [hb.frozen (by simp)]; simp [go_sem]
 have q1 : w1.frozen? ⟨w.heap.size, 1, none⟩ = false := by rw [hb.frozen (by simp)]; simp [go_sem]
 have hw1 : Below w.heap.size w w1 := zB
 have hf1 : Prs w1 b off n f := hf.below hw1 hf.1
 have hf0 : Hid (Prs w1 b off n f) := hf1
 have bw1 : b < w1.heap.size := by omega
 clear hb hf hf1 l0 l1
 go_wp2_with fail
 go_loopw [7, 29] (fun s i wr => ∃ k : Nat, ∃ ok : Bool, ∃ x y : Int, k + 1 ≤ n ∧ i = .int .i64 k ∧ s = .bool ok ∧ acc aU imn imx f k = (ok, x, y) ∧ wr.cell? ⟨w1.heap.size, 0, none⟩ = some (.int .i64 x) ∧ wr.cell? ⟨w1.heap.size, 1, none⟩ = some (.int .i64 y) ∧ wr.frozen? ⟨w1.heap.size, 0, none⟩ = false ∧ wr.frozen? ⟨w1.heap.size, 1, none⟩ = false ∧ w1.heap.size < wr.heap.size ∧ Below w1.heap.size w1 wr) (fun _ i _ => n - (intOf i).toNat)
 case atStart => exact ⟨0, okI (f 0).1 (f 0).2, sel (okI (f 0).1 (f 0).2) (f 0).1, sel (okI (f 0).1 (f 0).2) (f 0).2, h1, rfl, rfl, rfl, by first | (simp; done) | (simp (maxDischargeDepth := 6) [go_sem, *]; done) | (simp; omega) | omega, by first | (simp; done) | (simp (maxDischargeDepth := 6) [go_sem, *]; done) | (simp; omega) | omega, by first | (simp; done) | (simp (maxDischargeDepth := 6) [go_sem, *]; done) | (simp; omega) | omega, by first | (simp; done) | (simp (maxDischargeDepth := 6) [go_sem, *]; done) | (simp; omega) | omega, by first | (simp; done) | (simp (maxDischargeDepth := 6) [go_sem, *]; done) | (simp; omega) | omega, zB⟩
 case round =>
  obtain ⟨k, ok, x, y, hk, rfl, rfl, hacc, o0, o1, p0, p1, hsz, hB⟩ := hrel
  have HC : Hid (acc aU imn imx f k = (ok, x, y)) := hacc
  have t0 : wr.cell? ⟨w.heap.size, 0, none⟩ = some (.int .i64 0) := by rw [hB.cell (by first | (simp; done) | (simp; omega))]; exact r0
  have t1 : wr.cell? ⟨w.heap.size, 1, none⟩ = some (.int .i64 0) := by rw [hB.cell (by first | (simp; done) | (simp; omega))]; exact r1
  have u0 : wr.frozen? ⟨w.heap.size, 0, none⟩ = false := by rw [hB.frozen (by first | (simp; done) | (simp; omega))]; exact q0
  have u1 : wr.frozen? ⟨w.heap.size, 1, none⟩ = false := by rw [hB.frozen (by first | (simp; done) | (simp; omega))]; exact q1
  have hsw : w.heap.size < wr.heap.size := by omega
  clear hacc
  by_cases hlt : k + 1 < n
  ·have c0 : wr.cell? ⟨b, off + 2 + k * 2, none⟩ = some (.int .i64 (f (k + 1)).1) := by
    have := ((hf0.out.below hB bw1).2 (k + 1) hlt).1
    rwa [show off + (k + 1) * 2 = off + 2 + k * 2 by omega] at this
   have c1 : wr.cell? ⟨b, off + 2 + k * 2 + 1, none⟩ = some (.int .i64 (f (k + 1)).2) := by
    have := ((hf0.out.below hB bw1).2 (k + 1) hlt).2
    rwa [show off + (k + 1) * 2 = off + 2 + k * 2 by omega] at this
   have hli : (k : Int) < (n : Int) - 1 := by omega
   have bwr : b < wr.heap.size := by omega
   cases ok
   ·have HR : Hid (acc aU imn imx f (n - 1) = (false, 0, 0)) := pB (pA (k := k) (by rw [HC.out]) _ (by omega))
    go_wp2_with fail
    exact bodyPost_ret (v := .tuple #[.agg #[.int .i64 0, .int .i64 0], .bool false]) (by simp (maxDischargeDepth := 6) [results, Tryz.results203, go_sem, *]) rfl ⟨by rw [HR.out], zB⟩
   ·have HS : Hid (acc aU imn imx f (k + 1) = ((aU x y (f (k + 1)).1 (f (k + 1)).2), sel (aU x y (f (k + 1)).1 (f (k + 1)).2) (imn x (f (k + 1)).1), sel (aU x y (f (k + 1)).1 (f (k + 1)).2) (imx y (f (k + 1)).2))) := jU HC.out
    go_wp2_with fail
    refine (i5 _ _ _ _ _).mono ?_
    rintro e w2 ⟨rfl, hb⟩
    have z2 : wr.heap.size + 1 ≤ w2.heap.size := by have := hb.size; simpa using this
    have hlw : w1.heap.size < w2.heap.size := by omega
    have a0 : w2.cell? ⟨w1.heap.size, 0, none⟩ = some (.int .i64 x) := by rw [hb.cell (by first | (simp; done) | (simp; omega)), World.cell?_alloc_lt _ _ _ (by first | (simp; done) | (simp; omega))]; exact o0
    have a1 : w2.cell? ⟨w1.heap.size, 1, none⟩ = some (.int .i64 y) := by rw [hb.cell (by first | (simp; done) | (simp; omega)), World.cell?_alloc_lt _ _ _ (by first | (simp; done) | (simp; omega))]; exact o1
    have b0 : w2.frozen? ⟨w1.heap.size, 0, none⟩ = false := by rw [hb.frozen (by first | (simp; done) | (simp; omega)), World.frozen?_alloc_old _ _ _ (by first | (simp; done) | (simp; omega))]; exact p0
    have b1 : w2.frozen? ⟨w1.heap.size, 1, none⟩ = false := by rw [hb.frozen (by first | (simp; done) | (simp; omega)), World.frozen?_alloc_old _ _ _ (by first | (simp; done) | (simp; omega))]; exact p1
    clear o0 o1 p0 p1 c0 c1 t0 t1 u0 u1
    go_wp2_with fail
    go_roundw
    case rel => exact ⟨k + 1, _, _, _, by omega, by go_num, rfl, HS.out, by first | (simp; done) | (simp (maxDischargeDepth := 6) [go_sem, *]; done) | (simp; omega) | omega, by first | (simp; done) | (simp (maxDischargeDepth := 6) [go_sem, *]; done) | (simp; omega) | omega, by first | (simp; done) | (simp (maxDischargeDepth := 6) [go_sem, *]; done) | (simp; omega) | omega, by first | (simp; done) | (simp (maxDischargeDepth := 6) [go_sem, *]; done) | (simp; omega) | omega, by first | (simp; done) | (simp (maxDischargeDepth := 6) [go_sem, *]; done) | (simp; omega) | omega, zB⟩
    case measure => simp [intOf]; omega
  ·have HR : Hid (acc aU imn imx f (n - 1) = (ok, x, y)) := by
    have e : k = n - 1 := by omega
    rw [← e]; exact HC.out
   have hli : ¬ (k : Int) < (n : Int) - 1 := by omega
   go_wp2_with fail
   exact bodyPost_ret (v := .tuple #[.agg #[.int .i64 x, .int .i64 y], .bool ok]) (by simp (maxDischargeDepth := 6) [results, Tryz.results203, go_sem, *]) rfl ⟨by rw [HR.out], zB⟩
theorem lY (b off : Nat) (f : Nat → Int × Int) (w : World) (hf : Prs w b off 1 f) :
 Calls Tryz.prog 203 #[.slice (some ⟨b, off, none⟩) 1 1, .func (.func 204) #[] #[]] w fun e w' => e = .returned (.tuple #[.agg #[.int .i64 (acc aU imn imx f 0).2.1, .int .i64 (acc aU imn imx f 0).2.2], .bool (acc aU imn imx f 0).1]) ∧ Below w.heap.size w w' := by
 have l0 : w.cell? ⟨b, off, none⟩ = some (.int .i64 (f 0).1) := by have := (hf.2 0 (by omega)).1; simpa using this
 have l1 : w.cell? ⟨b, off + 1, none⟩ = some (.int .i64 (f 0).2) := by have := (hf.2 0 (by omega)).2; simpa using this
 have hbw : b < w.heap.size := hf.1
 go_enter Tryz.func203, Tryz.ntmps203
 go_wp2_with fail
 refine (bR _ _ _).mono ?_
 rintro e w1 ⟨rfl, hb⟩
 have s1 : w.heap.size + 1 ≤ w1.heap.size := by have := hb.size; simpa using this
 have hs1 : w.heap.size < w1.heap.size := by omega
 have r0 : w1.cell? ⟨w.heap.size, 0, none⟩ = some (.int .i64 0) := by rw [hb.cell (by simp)]; simp [go_sem]
 have r1 : w1.cell? ⟨w.heap.size, 1, none⟩ = some (.int .i64 0) := by rw [hb.cell (by simp)]; simp [go_sem]
 have q0 : w1.frozen? ⟨w.heap.size, 0, none⟩ = false := by rw [hb.frozen (by simp)]; simp [go_sem]
 have q1 : w1.frozen? ⟨w.heap.size, 1, none⟩ = false := by rw [hb.frozen (by simp)]; simp [go_sem]
 have hw1 : Below w.heap.size w w1 := zB
 clear hb hf l0 l1
 go_wp2_with fail
 go_loopw [7, 29] (fun s i wr => i = .int .i64 0 ∧ s = .bool (okI (f 0).1 (f 0).2) ∧ wr = w1.alloc (Obj.cells #[.int .i64 (sel (okI (f 0).1 (f 0).2) (f 0).1), .int .i64 (sel (okI (f 0).1 (f 0).2) (f 0).2)] 47)) (fun _ i _ => 0)
 case atStart => exact ⟨rfl, rfl, rfl⟩
 case round =>
  obtain ⟨rfl, rfl, rfl⟩ := hrel
  go_wp2_with fail
  exact bodyPost_ret (v := .tuple #[.agg #[.int .i64 (sel (okI (f 0).1 (f 0).2) (f 0).1), .int .i64 (sel (okI (f 0).1 (f 0).2) (f 0).2)], .bool (okI (f 0).1 (f 0).2)]) (by simp (maxDischargeDepth := 6) [results, Tryz.results203, go_sem, *]) rfl ⟨rfl, zB⟩
theorem jL (b off c : Nat) (f : Nat → Int × Int) (w : World) (hc2 : 2 ≤ c) (hcm : c ≤ maxLen) (hf : Prs w b off 1 f) :
 Calls Tryz.prog 203 #[.slice (some ⟨b, off, none⟩) 1 c, .func (.func 204) #[] #[]] w fun e w' => e = .returned (.tuple #[.agg #[.int .i64 (acc aU imn imx f 0).2.1, .int .i64 (acc aU imn imx f 0).2.2], .bool (acc aU imn imx f 0).1]) ∧ Below w.heap.size w w' := by
 have l0 : w.cell? ⟨b, off, none⟩ = some (.int .i64 (f 0).1) := by have := (hf.2 0 (by omega)).1; simpa using this
 have l1 : w.cell? ⟨b, off + 1, none⟩ = some (.int .i64 (f 0).2) := by have := (hf.2 0 (by omega)).2; simpa using this
 have hbw : b < w.heap.size := hf.1
 have hx1 : ¬ c = 1 := by omega
 have hx2 : ¬ c - 1 = 0 := by omega
 have hx3 : 1 < c := by omega
 have hx4 : (1 : Int) ≤ (c : Int) := by omega
 unfold maxLen at hcm
 go_enter Tryz.func203, Tryz.ntmps203
 go_wp2_with fail
 refine (bR _ _ _).mono ?_
 rintro e w1 ⟨rfl, hb⟩
 have s1 : w.heap.size + 1 ≤ w1.heap.size := by have := hb.size; simpa using this
 have hs1 : w.heap.size < w1.heap.size := by omega
 have r0 : w1.cell? ⟨w.heap.size, 0, none⟩ = some (.int .i64 0) := by rw [hb.cell (by simp)]; simp [go_sem]
 have r1 : w1.cell? ⟨w.heap.size, 1, none⟩ = some (.int .i64 0) := by rw [hb.cell (by simp)]; simp [go_sem]
 have q0 : w1.frozen? ⟨w.heap.size, 0, none⟩ = false := by rw [hb.frozen (by simp)]; simp [go_sem]
 have q1 : w1.frozen? ⟨w.heap.size, 1, none⟩ = false := by rw [hb.frozen (by simp)]; simp [go_sem]
 have hw1 : Below w.heap.size w w1 := zB
 clear hb hf l0 l1
 go_wp2_with fail
 go_loopw [7, 29] (fun s i wr => i = .int .i64 0 ∧ s = .bool (okI (f 0).1 (f 0).2) ∧ wr = w1.alloc (Obj.cells #[.int .i64 (sel (okI (f 0).1 (f 0).2) (f 0).1), .int .i64 (sel (okI (f 0).1 (f 0).2) (f 0).2)] 47)) (fun _ i _ => 0)
 case atStart => exact ⟨rfl, rfl, rfl⟩
 case round =>
  obtain ⟨rfl, rfl, rfl⟩ := hrel
  go_wp2_with fail
  exact bodyPost_ret (v := .tuple #[.agg #[.int .i64 (sel (okI (f 0).1 (f 0).2) (f 0).1), .int .i64 (sel (okI (f 0).1 (f 0).2) (f 0).2)], .bool (okI (f 0).1 (f 0).2)]) (by simp (maxDischargeDepth := 6) [results, Tryz.results203, go_sem, *]) rfl ⟨rfl, zB⟩
theorem jO (b off c n : Nat) (w : World) (hm : n ≤ maxLen) (h : n = 0 ∨ 64 < n) :
 Calls Tryz.prog 203 #[.slice (some ⟨b, off, none⟩) n c, .func (.func 204) #[] #[]] w fun e w' => e = .returned (.tuple #[.agg #[.int .i64 0, .int .i64 0], .bool false]) ∧ Below w.heap.size w w' := by
 unfold maxLen at hm
 rcases h with rfl | h
 ·go_enter Tryz.func203, Tryz.ntmps203
  go_wp2_with fail
  exact bodyPost_ret (v := .tuple #[.agg #[.int .i64 0, .int .i64 0], .bool false]) (by simp (maxDischargeDepth := 6) [results, Tryz.results203, go_sem, *]) rfl ⟨rfl, zB⟩
 ·have d1 : decide ((n : Int) < 1) = false := by simp; omega
  have d2 : decide (64 < (n : Int)) = true := by simp; omega
  go_enter Tryz.func203, Tryz.ntmps203
  go_wp2_with fail
  exact bodyPost_ret (v := .tuple #[.agg #[.int .i64 0, .int .i64 0], .bool false]) (by simp (maxDischargeDepth := 6) [results, Tryz.results203, go_sem, *]) rfl ⟨rfl, zB⟩
theorem lX (a : Option Addr) (c : Nat) (w : World) :
 Calls Tryz.prog 203 #[.slice a 0 c, .func (.func 204) #[] #[]] w fun e w' => e = .returned (.tuple #[.agg #[.int .i64 0, .int .i64 0], .bool false]) ∧ Below w.heap.size w w' := by
 go_enter Tryz.func203, Tryz.ntmps203
 go_wp2_with fail
 exact bodyPost_ret (v := .tuple #[.agg #[.int .i64 0, .int .i64 0], .bool false]) (by simp (maxDischargeDepth := 6) [results, Tryz.results203, go_sem, *]) rfl ⟨rfl, zB⟩
theorem jK (a : Option Addr) (n c : Nat) (f : Nat → Int × Int) (w : World) (hnc : n ≤ c) (hcm : c ≤ maxLen) (hf : Src w a n f) :
 Calls Tryz.prog 203 #[.slice a n c, .func (.func 204) #[] #[]] w fun e w' => e = .returned (.tuple #[.agg #[.int .i64 (eX aU imn imx f n).2.1, .int .i64 (eX aU imn imx f n).2.2], .bool (eX aU imn imx f n).1]) ∧ Below w.heap.size w w' := by
 by_cases h : 1 ≤ n ∧ n ≤ 64
 ·rw [nG h]
  rcases hf with h0 | ⟨b, off, rfl, hf⟩
  ·omega
  by_cases h2 : 2 ≤ n
  ·exact ii b off n c f w h.1 h2 h.2 hnc hcm hf
  ·obtain rfl : n = 1 := by omega
   by_cases hc : 2 ≤ c
   ·exact jL b off c f w hc hcm hf
   ·obtain rfl : c = 1 := by omega
    exact lY b off f w hf
 ·rw [jX h]
  by_cases h0 : n = 0
  ·subst h0; exact lX a c w
  ·rcases hf with h1 | ⟨b, off, rfl, hf⟩
   ·omega
   ·exact jO b off c n w (by omega) (by omega)
theorem i4 (a : Option Addr) (n c : Nat) (f : Nat → Int × Int) (w : World) (hnc : n ≤ c) (hcm : c ≤ maxLen) (hf : Src w a n f) :
 Calls Tryz.prog 180 #[.slice a n c] w fun e w' => e = .returned (.tuple #[.agg #[.int .i64 (eX aU imn imx f n).2.1, .int .i64 (eX aU imn imx f n).2.2], .bool (eX aU imn imx f n).1]) ∧ Below w.heap.size w w' := by
 have A := Below.refl w.heap.size w
 go_enter Tryz.func180, Tryz.ntmps180
 go_wp2_with fail
 refine (jK a n c f _ hnc hcm (by exact hf.below ((Below.refl _ _).alloc (Nat.le_refl _) _))).mono ?_
 rintro e w1 ⟨rfl, hb⟩
 have s1 : w.heap.size + 1 ≤ w1.heap.size := by have := hb.size; simpa using this
 have hs1 : w.heap.size < w1.heap.size := by omega
 have r0 : w1.cell? ⟨w.heap.size, 0, none⟩ = some (.int .i64 0) := by rw [hb.cell (by simp)]; simp [go_sem]
 have r1 : w1.cell? ⟨w.heap.size, 1, none⟩ = some (.int .i64 0) := by rw [hb.cell (by simp)]; simp [go_sem]
 have q0 : w1.frozen? ⟨w.heap.size, 0, none⟩ = false := by rw [hb.frozen (by simp)]; simp [go_sem]
 have q1 : w1.frozen? ⟨w.heap.size, 1, none⟩ = false := by rw [hb.frozen (by simp)]; simp [go_sem]
 clear hf
 go_wp2_with fail
 exact bodyPost_ret (v := .tuple #[.agg #[.int .i64 (eX aU imn imx f n).2.1, .int .i64 (eX aU imn imx f n).2.2], .bool (eX aU imn imx f n).1]) (by simp (maxDischargeDepth := 6) [results, Tryz.results180, go_sem, *]) rfl ⟨rfl, zB⟩
end Go.Proofs.YtikbjljkakabdaaGreat
