/- When a net is right: the contract of spec.NetOk. -/
import Derived.Test.YtddijpjgkifngaaGreatMN0
import Derived.Test.YtddijpjgkifngaaGreatMN25
namespace Go.Proofs.YtddijpjgkifngaaGreat
open Go.RowKit
set_option linter.unusedVariables false
set_option maxRecDepth 100000
set_option maxHeartbeats 16000000
def lk (M : Nat → FT) : Nat → Int → Option FT
 | 0, _ => none
 | k + 1, x => if (M k).1 = x then some (M k) else lk M k x
def inB (nx : Int) (x : Int) : Bool := decide (0 ≤ x ∧ x ≤ nx - 1)
def nOk (nx : Int) (M : Nat → FT) : Nat → Bool
 | 0 => true
 | k + 1 => nOk nx M k && (flT (M k) && inB nx (M k).1 && !(lk M k (M k).1).isSome)
def aH (nx : Int) (M : Nat → FT) (n : Nat) : Bool := decide (0 ≤ nx ∧ nx ≤ 1000000) && decide (n ≤ 40) && nOk nx M n
theorem dN {nx : Int} {M : Nat → FT} {k : Nat} (h : (flT (M k) && inB nx (M k).1 && !(lk M k (M k).1).isSome) = false) : ∀ n, k < n → nOk nx M n = false
 | 0, hn => absurd hn (Nat.not_lt_zero _)
 | n + 1, hn => by
  rcases Nat.lt_succ_iff_lt_or_eq.1 hn with h1 | h1
  ·rw [nOk, dN h n h1, Bool.false_and]
  ·subst h1; rw [nOk, h, Bool.and_false]
theorem fi {M : Nat → FT} {x : Int} : ∀ {k : Nat}, (lk M k x).isSome = true ↔ ∃ j, j < k ∧ (M j).1 = x
 | 0 => by simp [lk]
 | k + 1 => by
  rw [lk]
  by_cases h : (M k).1 = x
  ·rw [if_pos h]; simp; exact ⟨k, by omega, h⟩
  ·rw [if_neg h, fi]
   constructor
   ·rintro ⟨j, hj, e⟩; exact ⟨j, by omega, e⟩
   ·rintro ⟨j, hj, e⟩
    exact ⟨j, by rcases Nat.lt_succ_iff_lt_or_eq.1 hj with q | q; exact q; subst q; exact absurd e h, e⟩
theorem j6 {M : Nat → FT} {x : Int} {k : Nat} (h : ∀ j, j < k → (M j).1 ≠ x) : (lk M k x).isSome = false := by
 cases e : (lk M k x).isSome
 ·rfl
 ·obtain ⟨j, hj, q⟩ := fi.1 e
  exact absurd q (h j hj)
theorem bq {nx : Int} {M : Nat → FT} {n : Nat} (h : nOk nx M n = false) : aH nx M n = false := by rw [aH, h, Bool.and_false]
theorem iL {nx : Int} {M : Nat → FT} {n : Nat} (h : ¬ (0 ≤ nx ∧ nx ≤ 1000000)) : aH nx M n = false := by rw [aH, decide_eq_false h]; rfl
theorem eB {nx : Int} {M : Nat → FT} {n : Nat} (h : ¬ n ≤ 40) : aH nx M n = false := by rw [aH, decide_eq_false h, Bool.and_false]; rfl
theorem df {nx : Int} {M : Nat → FT} {n : Nat} (h1 : 0 ≤ nx ∧ nx ≤ 1000000) (h2 : n ≤ 40) (h : nOk nx M n = true) : aH nx M n = true := by rw [aH, h, decide_eq_true h1, decide_eq_true h2]; rfl
theorem fs (nx : Int) (a : Option Addr) (n c : Nat) (M : Nat → FT) (w : World) (h : ¬ (0 ≤ nx ∧ nx ≤ 1000000)) :
 Calls Tryz.prog 44 #[.agg #[.int .i64 nx, .slice a n c]] w fun e w' => e = .returned (.bool (aH nx M n)) ∧ Below w.heap.size w w' := by
 have HB : Hid (aH nx M n = false) := iL h
 have hd : decide (0 ≤ nx ∧ nx ≤ 1000000) = false := decide_eq_false h
 clear h
 have A0 := Below.nw w (.cells #[.int .i64 nx, .slice a n c] 49)
 go_enter Tryz.func44, Tryz.ntmps44
 go_wp2_with fail
 refine (al _ _ _ _).mono ?_
 rintro e w' ⟨rfl, rfl⟩
 rw [hd]
 go_wp2_with fail
 go_ret
 exact ⟨ab HB.out.symm, A0⟩
theorem dQ (nx : Int) (a : Option Addr) (n c : Nat) (M : Nat → FT) (w : World) (hm : n ≤ maxLen) (h : 0 ≤ nx ∧ nx ≤ 1000000) (hl : ¬ n ≤ 40) :
 Calls Tryz.prog 44 #[.agg #[.int .i64 nx, .slice a n c]] w fun e w' => e = .returned (.bool (aH nx M n)) ∧ Below w.heap.size w w' := by
 unfold maxLen at hm
 have HB : Hid (aH nx M n = false) := eB hl
 have hd : decide (0 ≤ nx ∧ nx ≤ 1000000) = true := decide_eq_true h
 have hi : (40 : Int) < (n : Int) := by omega
 clear h
 have A0 := Below.nw w (.cells #[.int .i64 nx, .slice a n c] 49)
 go_enter Tryz.func44, Tryz.ntmps44
 go_wp2_with fail
 refine (al _ _ _ _).mono ?_
 rintro e w' ⟨rfl, rfl⟩
 rw [hd]
 go_wp2_with fail
 go_ret
 exact ⟨ab HB.out.symm, A0⟩
theorem dS (nx : Int) (a : Option Addr) (c : Nat) (M : Nat → FT) (w : World) (h : 0 ≤ nx ∧ nx ≤ 1000000) :
 Calls Tryz.prog 44 #[.agg #[.int .i64 nx, .slice a 0 c]] w fun e w' => e = .returned (.bool (aH nx M 0)) ∧ Below w.heap.size w w' := by
 have HB : Hid (aH nx M 0 = true) := df h (by omega) rfl
 have hd : decide (0 ≤ nx ∧ nx ≤ 1000000) = true := decide_eq_true h
 clear h
 have A0 := Below.nw w (.cells #[.int .i64 nx, .slice a 0 c] 49)
 go_enter Tryz.func44, Tryz.ntmps44
 go_wp2_with fail
 refine (al _ _ _ _).mono ?_
 rintro e w' ⟨rfl, rfl⟩
 rw [hd]
 go_wp2_with fail
 go_loopw [3] (fun i wr => i = .int .i64 0 ∧ w.alloc (.cells #[.int .i64 nx, .slice a 0 c] 49) = wr) (fun i _ => 0)
 case atStart => exact ⟨rfl, by first | rfl | trivial⟩
 case round =>
  obtain ⟨rfl, rfl⟩ := hrel
  go_wp2_with fail
  go_ret
  exact ⟨ab HB.out.symm, A0⟩
theorem dR (nx : Int) (b off n c : Nat) (M : Nat → FT) (w : World) (h : 0 ≤ nx ∧ nx ≤ 1000000) (hn : n ≤ 40) (hf : Cs w b off (n * 5) (ap M)) (hs : ∀ i, i < n → ((M i).2.2.2.1).size ≤ maxLen) :
 Calls Tryz.prog 44 #[.agg #[.int .i64 nx, .slice (some ⟨b, off, none⟩) n c]] w fun e w' => e = .returned (.bool (aH nx M n)) ∧ Below w.heap.size w w' := by
 have HNX : Hid (0 ≤ nx ∧ nx ≤ 1000000) := h
 have hd : decide (0 ≤ nx ∧ nx ≤ 1000000) = true := decide_eq_true h
 have hw1 : IntKind.i64.wrap (nx - 1) = nx - 1 := Go.IntWalk.i64_in _ ⟨by omega, by omega⟩
 have hi : ¬ (40 : Int) < (n : Int) := by omega
 have HS : Hid (∀ i, i < n → ((M i).2.2.2.1).size ≤ maxLen) := hs
 have A0 := Below.nw w (.cells #[.int .i64 nx, .slice (some ⟨b, off, none⟩) n c] 49)
 have N0 : (w.alloc (.cells #[.int .i64 nx, .slice (some ⟨b, off, none⟩) n c] 49)).cell? ⟨w.heap.size, 0, none⟩ = some (.int .i64 nx) := by simp
 have N1 : (w.alloc (.cells #[.int .i64 nx, .slice (some ⟨b, off, none⟩) n c] 49)).cell? ⟨w.heap.size, 1, none⟩ = some (.slice (some ⟨b, off, none⟩) n c) := by simp
 have hJ0 : w.heap.size < (w.alloc (.cells #[.int .i64 nx, .slice (some ⟨b, off, none⟩) n c] 49)).heap.size := by simp
 have HF := hf.below A0 hf.1
 have hb0 := HF.1
 clear hs h hf
 go_enter Tryz.func44, Tryz.ntmps44
 go_wp2_with fail
 refine (al _ _ _ _).mono ?_
 rintro e w' ⟨rfl, rfl⟩
 rw [hd]
 clear hd
 go_wp2_with fail
 generalize w.alloc (.cells #[.int .i64 nx, .slice (some ⟨b, off, none⟩) n c] 49) = w0 at *
 go_loopw [3] (fun i wr => ∃ k : Nat, k ≤ n ∧ i = .int .i64 k ∧ nOk nx M k = true ∧ Below w0.heap.size w0 wr) (fun i _ => n - (intOf i).toNat)
 case atStart => exact ⟨0, Nat.zero_le _, rfl, rfl, Below.refl _ _⟩
 case round =>
  obtain ⟨k, hk, rfl, hok, hB⟩ := hrel
  have HOK : Hid (nOk nx M k = true) := hok
  clear hok
  have n0 := (hB.cell (p := ⟨w.heap.size, 0, none⟩) hJ0).trans N0
  have n1 := (hB.cell (p := ⟨w.heap.size, 1, none⟩) hJ0).trans N1
  have hJr : w.heap.size < wr.drew.heap.size := Nat.lt_of_lt_of_le hJ0 hB.size
  have hJr' : w.heap.size < wr.heap.size := Nat.lt_of_lt_of_le hJ0 hB.size
  have hBw := A0.trans (hB.mono A0.size)
  by_cases hlt : k < n
  ·obtain ⟨x0, x1, x2, x3, x4, hM⟩ := be M k
   obtain ⟨c0, c1, c2, c3, c4⟩ := (HF.below hB hb0).elFlight hlt hM
   have hbr : b < wr.drew.heap.size := Nat.lt_of_lt_of_le hb0 hB.size
   have hsz : x3.size ≤ maxLen := by have := HS.out k hlt; rw [hM] at this; exact this
   have hli : (k : Int) < (n : Int) := by omega
   have HFL : Hid (flT (M k) = flB x1 x2 x3 x4) := by rw [hM]; rfl
   have HID : Hid ((M k).1 = x0) := by rw [hM]; rfl
   clear hM
   cases hfl : flB x1 x2 x3 x4
   ·have HN : Hid (nOk nx M n = false) := dN (by rw [HFL.out, hfl]; rfl) n hlt
    go_wp2_with fail
    refine wp_region_held_drew (S := (fun w' => w'.cell? ⟨w.heap.size, 0, none⟩ = some (.int .i64 nx) ∧ w'.cell? ⟨w.heap.size, 1, none⟩ = some (.slice (some ⟨b, off, none⟩) n c) ∧ w'.cell? ⟨b, off + k * 5, none⟩ = some (.int .i64 x0) ∧ w'.cell? ⟨b, off + k * 5 + 1, none⟩ = some (.int .i64 x1) ∧ w'.cell? ⟨b, off + k * 5 + 2, none⟩ = some (.int .i64 x2) ∧ w'.cell? ⟨b, off + k * 5 + 3, none⟩ = some (.string x3) ∧ w'.cell? ⟨b, off + k * 5 + 4, none⟩ = some (.int .i64 x4))) (by kernel_rfl) ?_ (fun hHeld => ?_)
    ·first | exact ⟨n0, n1, c0, c1, c2, c3, c4⟩ | (simp (maxDischargeDepth := 6) [go_sem, *]; done)
    refine zT4 0 ?_
    refine zTk 4 ?_
    refine zQ 5 fun K hK => ?_
    go_simp
    refine (bL _ _ _ _ _ _ hsz).mono ?_; rintro e w' ⟨rfl, hb⟩; rw [hfl]; (replace n0 := (hb.cell (p := ⟨w.heap.size, 0, none⟩) hJr).trans n0); (replace n1 := (hb.cell (p := ⟨w.heap.size, 1, none⟩) hJr).trans n1); (replace c0 := (hb.cell (p := ⟨b, off + k * 5, none⟩) hbr).trans c0); (replace c1 := (hb.cell (p := ⟨b, off + k * 5 + 1, none⟩) hbr).trans c1); (replace c2 := (hb.cell (p := ⟨b, off + k * 5 + 2, none⟩) hbr).trans c2); (replace c3 := (hb.cell (p := ⟨b, off + k * 5 + 3, none⟩) hbr).trans c3); (replace c4 := (hb.cell (p := ⟨b, off + k * 5 + 4, none⟩) hbr).trans c4)
    (try go_wp2_with fail)
    refine hK.out _ _ ?_ (fun hHeld => ?_)
    ·first | exact ⟨n0, n1, c0, c1, c2, c3, c4⟩ | (simp (maxDischargeDepth := 6) [go_sem, *]; done)
    clear hK K
    (try simp only [zA])
    refine zT2 6 ?_
    refine zTn 8 ?_
    refine zTn 9 ?_
    refine zTn 10 ?_
    refine zTn 11 ?_
    refine zTn 12 ?_
    refine zTn 13 ?_
    refine zTn 14 ?_
    refine zTn 15 ?_
    refine zTn 16 ?_
    refine zTn 17 ?_
    refine zTn 18 ?_
    refine zTk 19 ?_
    refine wpAnyH_done (by kernel_rfl) ?_ _
    have hB2 := (Below.drew hBw).trans (hb.mono (show w.heap.size ≤ wr.drew.heap.size from hBw.size))
    go_wp2_with fail
    go_ret
    exact ⟨ab (bq HN.out).symm, hB2⟩
   ·cases hin : decide (0 ≤ x0 ∧ x0 ≤ nx - 1)
    ·have HN : Hid (nOk nx M n = false) := dN (by rw [HFL.out, hfl, HID.out, inB, hin]; rfl) n hlt
     go_wp2_with fail
     refine wp_region_held_drew (S := (fun w' => w'.cell? ⟨w.heap.size, 0, none⟩ = some (.int .i64 nx) ∧ w'.cell? ⟨w.heap.size, 1, none⟩ = some (.slice (some ⟨b, off, none⟩) n c) ∧ w'.cell? ⟨b, off + k * 5, none⟩ = some (.int .i64 x0) ∧ w'.cell? ⟨b, off + k * 5 + 1, none⟩ = some (.int .i64 x1) ∧ w'.cell? ⟨b, off + k * 5 + 2, none⟩ = some (.int .i64 x2) ∧ w'.cell? ⟨b, off + k * 5 + 3, none⟩ = some (.string x3) ∧ w'.cell? ⟨b, off + k * 5 + 4, none⟩ = some (.int .i64 x4))) (by kernel_rfl) ?_ (fun hHeld => ?_)
     ·first | exact ⟨n0, n1, c0, c1, c2, c3, c4⟩ | (simp (maxDischargeDepth := 6) [go_sem, *]; done)
     refine zT4 0 ?_
     refine zTk 4 ?_
     refine zQ 5 fun K hK => ?_
     go_simp
     refine (bL _ _ _ _ _ _ hsz).mono ?_; rintro e w' ⟨rfl, hb⟩; rw [hfl]; (replace n0 := (hb.cell (p := ⟨w.heap.size, 0, none⟩) hJr).trans n0); (replace n1 := (hb.cell (p := ⟨w.heap.size, 1, none⟩) hJr).trans n1); (replace c0 := (hb.cell (p := ⟨b, off + k * 5, none⟩) hbr).trans c0); (replace c1 := (hb.cell (p := ⟨b, off + k * 5 + 1, none⟩) hbr).trans c1); (replace c2 := (hb.cell (p := ⟨b, off + k * 5 + 2, none⟩) hbr).trans c2); (replace c3 := (hb.cell (p := ⟨b, off + k * 5 + 3, none⟩) hbr).trans c3); (replace c4 := (hb.cell (p := ⟨b, off + k * 5 + 4, none⟩) hbr).trans c4)
     (try go_wp2_with fail)
     refine hK.out _ _ ?_ (fun hHeld => ?_)
     ·first | exact ⟨n0, n1, c0, c1, c2, c3, c4⟩ | (simp (maxDischargeDepth := 6) [go_sem, *]; done)
     clear hK K
     (try simp only [zA])
     refine zT8 6 ?_
     refine zT2 14 ?_
     refine zTk 16 ?_
     refine zQ 17 fun K hK => ?_
     go_simp
     refine (al _ _ _ _).mono ?_; rintro e w' ⟨rfl, rfl⟩; rw [hin]
     (try go_wp2_with fail)
     refine hK.out _ _ ?_ (fun hHeld => ?_)
     ·first | exact ⟨n0, n1, c0, c1, c2, c3, c4⟩ | (simp (maxDischargeDepth := 6) [go_sem, *]; done)
     clear hK K
     (try simp only [zA])
     refine zT2 18 ?_
     refine wpAnyH_done (by kernel_rfl) ?_ _
     have hB2 := (Below.drew hBw).trans (hb.mono (show w.heap.size ≤ wr.drew.heap.size from hBw.size))
     go_wp2_with fail
     go_ret
     exact ⟨ab (bq HN.out).symm, hB2⟩
    ·go_wp2_with fail
     refine wp_region_held_drew (S := (fun w' => w'.cell? ⟨w.heap.size, 0, none⟩ = some (.int .i64 nx) ∧ w'.cell? ⟨w.heap.size, 1, none⟩ = some (.slice (some ⟨b, off, none⟩) n c) ∧ w'.cell? ⟨b, off + k * 5, none⟩ = some (.int .i64 x0) ∧ w'.cell? ⟨b, off + k * 5 + 1, none⟩ = some (.int .i64 x1) ∧ w'.cell? ⟨b, off + k * 5 + 2, none⟩ = some (.int .i64 x2) ∧ w'.cell? ⟨b, off + k * 5 + 3, none⟩ = some (.string x3) ∧ w'.cell? ⟨b, off + k * 5 + 4, none⟩ = some (.int .i64 x4))) (by kernel_rfl) ?_ (fun hHeld => ?_)
     ·first | exact ⟨n0, n1, c0, c1, c2, c3, c4⟩ | (simp (maxDischargeDepth := 6) [go_sem, *]; done)
     refine zT4 0 ?_
     refine zTk 4 ?_
     refine zQ 5 fun K hK => ?_
     go_simp
     refine (bL _ _ _ _ _ _ hsz).mono ?_; rintro e w' ⟨rfl, hb⟩; rw [hfl]; (replace n0 := (hb.cell (p := ⟨w.heap.size, 0, none⟩) hJr).trans n0); (replace n1 := (hb.cell (p := ⟨w.heap.size, 1, none⟩) hJr).trans n1); (replace c0 := (hb.cell (p := ⟨b, off + k * 5, none⟩) hbr).trans c0); (replace c1 := (hb.cell (p := ⟨b, off + k * 5 + 1, none⟩) hbr).trans c1); (replace c2 := (hb.cell (p := ⟨b, off + k * 5 + 2, none⟩) hbr).trans c2); (replace c3 := (hb.cell (p := ⟨b, off + k * 5 + 3, none⟩) hbr).trans c3); (replace c4 := (hb.cell (p := ⟨b, off + k * 5 + 4, none⟩) hbr).trans c4)
     (try go_wp2_with fail)
     refine hK.out _ _ ?_ (fun hHeld => ?_)
     ·first | exact ⟨n0, n1, c0, c1, c2, c3, c4⟩ | (simp (maxDischargeDepth := 6) [go_sem, *]; done)
     clear hK K
     (try simp only [zA])
     refine zT8 6 ?_
     refine zT2 14 ?_
     refine zTk 16 ?_
     refine zQ 17 fun K hK => ?_
     go_simp
     refine (al _ _ _ _).mono ?_; rintro e w' ⟨rfl, rfl⟩; rw [hin]
     (try go_wp2_with fail)
     refine hK.out _ _ ?_ (fun hHeld => ?_)
     ·first | exact ⟨n0, n1, c0, c1, c2, c3, c4⟩ | (simp (maxDischargeDepth := 6) [go_sem, *]; done)
     clear hK K
     (try simp only [zA])
     refine zT2 18 ?_
     refine wpAnyH_done (by kernel_rfl) ?_ _
     have hB2 : Below w0.heap.size w0 w' := (Below.drew hB).trans (hb.mono (show w0.heap.size ≤ wr.drew.heap.size from hB.size))
     clear hb hB hBw hJr hJr' hHeld c1 c2 c3 c4
     go_wp2_with fail
     generalize w' = wi at *
     go_loopw [4] (fun i wr => ∃ q : Nat, q ≤ k ∧ i = .int .i64 q ∧ (∀ j, j < q → (M j).1 ≠ x0) ∧ Below w0.heap.size w0 wr) (fun i _ => k - (intOf i).toNat)
     case atStart => exact ⟨0, Nat.zero_le _, rfl, fun j hj => absurd hj (Nat.not_lt_zero _), hB2⟩
     case round =>
      obtain ⟨q, hq, rfl, hfr, hB⟩ := hrel
      have HFR : Hid (∀ j, j < q → (M j).1 ≠ x0) := hfr
      clear hfr hB2 n0 n1 c0 hbr
      have n0 := (hB.cell (p := ⟨w.heap.size, 0, none⟩) hJ0).trans N0
      have n1 := (hB.cell (p := ⟨w.heap.size, 1, none⟩) hJ0).trans N1
      have hJr' : w.heap.size < wr.heap.size := Nat.lt_of_lt_of_le hJ0 hB.size
      have hBw := A0.trans (hB.mono A0.size)
      have hbr : b < wr.heap.size := Nat.lt_of_lt_of_le hb0 hB.size
      by_cases hqk : q < k
      ·have hqi : (q : Int) < (k : Int) := by omega
       have hqn : (q : Int) < (n : Int) := by omega
       obtain ⟨y0, y1, y2, y3, y4, hMq⟩ := be M q
       obtain ⟨d0, -, -, -, -⟩ := (HF.below hB hb0).elFlight (k := q) (by omega) hMq
       obtain ⟨z0, z1, z2, z3, z4, hMk⟩ := be M k
       obtain ⟨c0, -, -, -, -⟩ := (HF.below hB hb0).elFlight (k := k) hlt hMk
       have ez : x0 = z0 := by have := HID.out; rw [hMk] at this; exact this.symm
       subst ez
       have HIQ : Hid ((M q).1 = y0) := by rw [hMq]; rfl
       clear hMq hMk
       by_cases he : y0 = x0
       ·have heb : (y0 == x0) = true := by simp; exact he
        have HN : Hid (nOk nx M n = false) := dN (by rw [HID.out, (fi (M := M) (x := x0) (k := k)).2 ⟨q, hqk, HIQ.out.trans he⟩]; simp) n hlt
        go_wp2_with fail
        refine wp_region_held_drew (S := (fun w' => w'.cell? ⟨w.heap.size, 0, none⟩ = some (.int .i64 nx) ∧ w'.cell? ⟨w.heap.size, 1, none⟩ = some (.slice (some ⟨b, off, none⟩) n c) ∧ w'.cell? ⟨b, off + q * 5, none⟩ = some (.int .i64 y0) ∧ w'.cell? ⟨b, off + k * 5, none⟩ = some (.int .i64 x0))) (by kernel_rfl) ?_ (fun hHeld => ?_)
        ·first | exact ⟨n0, n1, d0, c0⟩ | (simp (maxDischargeDepth := 6) [go_sem, *]; done)
        refine zT8 0 ?_
        refine zT4 8 ?_
        refine zTk 12 ?_
        refine wpAnyH_done (by kernel_rfl) ?_ _
        go_wp2_with fail
        go_ret
        exact ⟨ab (bq HN.out).symm, (Below.drew hBw)⟩
       ·have heb : (y0 == x0) = false := by simp; exact he
        go_wp2_with fail
        refine wp_region_held_drew (S := (fun w' => w'.cell? ⟨w.heap.size, 0, none⟩ = some (.int .i64 nx) ∧ w'.cell? ⟨w.heap.size, 1, none⟩ = some (.slice (some ⟨b, off, none⟩) n c) ∧ w'.cell? ⟨b, off + q * 5, none⟩ = some (.int .i64 y0) ∧ w'.cell? ⟨b, off + k * 5, none⟩ = some (.int .i64 x0))) (by kernel_rfl) ?_ (fun hHeld => ?_)
        ·first | exact ⟨n0, n1, d0, c0⟩ | (simp (maxDischargeDepth := 6) [go_sem, *]; done)
        refine zT8 0 ?_
        refine zT4 8 ?_
        refine zTk 12 ?_
        refine wpAnyH_done (by kernel_rfl) ?_ _
        go_wp2_with fail
        go_roundw
        case rel =>
         refine ⟨q + 1, by omega, by go_num, fun j hj => ?_, Below.drew hB⟩
         by_cases e : j = q
         ·subst e; rw [HIQ.out]; exact he
         ·exact HFR.out j (by omega)
        case measure => simp [intOf]; omega
      ·have hqk' : q = k := by omega
       subst hqk'
       have hqi : ¬ (q : Int) < (q : Int) := by omega
       go_wp2_with fail
       go_roundw
       case rel => exact ⟨q + 1, by omega, by go_num, by rw [nOk, HOK.out, HFL.out, hfl, HID.out, inB, hin, j6 HFR.out]; rfl, hB⟩
       case measure => simp [intOf]; omega
  ·have hkn : k = n := by omega
   subst hkn
   have hli : ¬ (k : Int) < (k : Int) := by omega
   go_wp2_with fail
   go_ret
   exact ⟨ab (df HNX.out hn HOK.out).symm, hBw⟩
theorem er (nx : Int) (a : Option Addr) (n c : Nat) (M : Nat → FT) (w : World) (hm : n ≤ maxLen) (hf : ae w a (n * 5) (ap M)) (hs : ∀ i, i < n → ((M i).2.2.2.1).size ≤ maxLen) :
 Calls Tryz.prog 44 #[.agg #[.int .i64 nx, .slice a n c]] w fun e w' => e = .returned (.bool (aH nx M n)) ∧ Below w.heap.size w w' := by
 by_cases h : 0 ≤ nx ∧ nx ≤ 1000000
 ·by_cases hl : n ≤ 40
  ·rcases hf with h0 | ⟨b, off, rfl, hf⟩
   ·have hn0 : n = 0 := by omega
    subst hn0
    exact dS nx a c M w h
   ·exact dR nx b off n c M w h hl hf hs
  ·exact dQ nx a n c M w hm h hl
 ·exact fs nx a n c M w h
end Go.Proofs.YtddijpjgkifngaaGreat
