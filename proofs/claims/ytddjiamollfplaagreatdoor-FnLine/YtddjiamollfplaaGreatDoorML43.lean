/- A drawn line. -/
import Derived.Test.YtddjiamollfplaaGreatDoorML0
import Derived.Test.YtddjiamollfplaaGreatDoorML38
import Derived.Test.YtddjiamollfplaaGreatDoorML40
namespace Go.Proofs.YtddjiamollfplaaGreatDoor
open Go.RowKit
set_option linter.unusedVariables false

theorem own_lso {w : World} {base : Nat} {P : Option Addr} {L : List Int} {c : Nat} (h : w.ownsRow base 3 1 (.slice P L.length c) L.length (irow L)) : LsO w P L.length c (gI L) := by
 by_cases h0 : 0 < L.length
 ·obtain ⟨g, cap, hv, hc⟩ := own_cellY h h0
  simp only [Value.slice.injEq] at hv
  obtain ⟨rfl, _, rfl⟩ := hv
  exact .inr ⟨g, 0, rfl, .inr hc⟩
 ·have hl : L.length = 0 := by omega
  obtain ⟨_, ⟨hv, _⟩ | ⟨g, cap, cs, hv, _⟩⟩ := h
  ·simp only [Value.slice.injEq] at hv
   exact .inl ⟨hv.1, hl, hv.2.2⟩
  ·simp only [Value.slice.injEq] at hv
   exact .inr ⟨g, 0, hv.1, .inl hl⟩
theorem imn_nat (i n : Nat) : ∃ j : Nat, j ≤ n ∧ imn ((i : Int) + 1) (n : Int) = (j : Int) := by
 unfold imn
 split
 ·exact ⟨n, Nat.le_refl _, rfl⟩
 ·exact ⟨i + 1, by omega, by omega⟩
def StB (w : World) (g : Nat) : Prop := g < w.heap.size ∧ ∀ j, j < 11 → ∃ s : ByteArray, s.size ≤ 10 ∧ w.cell? ⟨g, j, none⟩ = some (.string s)
theorem StB.but {w w' : World} {g p : Nat} (h : StB w g) (hb : But p w w') (hp : g ≠ p) : StB w' g := ⟨Nat.lt_of_lt_of_le h.1 hb.2.2.2.1, fun j hj => by
 obtain ⟨s, h1, h2⟩ := h.2 j hj
 exact ⟨s, h1, by rw [hb.cell h.1 hp]; exact h2⟩⟩
theorem eleven (j : Nat) (h : j < 11) : j = 0 ∨ j = 1 ∨ j = 2 ∨ j = 3 ∨ j = 4 ∨ j = 5 ∨ j = 6 ∨ j = 7 ∨ j = 8 ∨ j = 9 ∨ j = 10 := by omega
theorem StB.new (w : World) : StB (w.alloc (.cells #[.string ⟨#[32]⟩, .string ⟨#[48]⟩, .string ⟨#[45]⟩, .string ⟨#[120]⟩, .string ⟨#[57]⟩, .string ⟨#[97]⟩, .string ⟨#[35]⟩, .string ⟨#[32, 32]⟩, .string ⟨#[112, 97, 115, 115]⟩, .string ⟨#[10]⟩, .string ⟨#[49, 48, 48, 48, 48, 48, 48, 48, 48, 48]⟩] 9)) w.heap.size := ⟨by simp, fun j hj => by
 rcases eleven j hj with rfl | rfl | rfl | rfl | rfl | rfl | rfl | rfl | rfl | rfl | rfl <;> exact ⟨_, by decide, (Bo.new w _ 9).cell rfl⟩⟩
theorem BelP.below {base p B : Nat} {w w' : World} (h : BelP base p w w') (h1 : B ≤ base) (h2 : B ≤ p) : Below B w w' := ⟨h.1, h.2.1, h.2.2.1, h.2.2.2.1, fun q hq => h.2.2.2.2 q (by omega) (by omega)⟩
attribute [-go_sem] loadCells storeCells in
set_option maxRecDepth 100000 in
set_option maxHeartbeats 16000000 in
theorem l1Pick_any (B p b off m c : Nat) (w : World) (hcur : CurOk w B p) (hm : 0 < m) (hm2 : m ≤ 100) (hb : b < w.heap.size) (hbp : b ≠ p) (hl : ∀ j, j < m → ∃ v : ByteArray, v.size ≤ 10 ∧ w.cell? ⟨b, off + j, none⟩ = some (.string v)) :
 Calls Tryz.prog 70 #[.pointer (some ⟨p, 0, none⟩), .slice (some ⟨b, off, none⟩) m c] w fun e w' => ∃ v : ByteArray, e = .returned (.string v) ∧ v.size ≤ 10 ∧ CurOk w' B p ∧ But p w w' := by
 have HL : Hid (∀ j, j < m → ∃ v : ByteArray, v.size ≤ 10 ∧ w.cell? ⟨b, off + j, none⟩ = some (.string v)) := hl
 clear hl
 go_enter Tryz.func70, Tryz.ntmps70
 go_wp2_with fail
 refine (l1Below_any B p m _ hcur).mono ?_
 rintro e w1 ⟨x, rfl, h0, h1, h2, h3, hc, hw⟩
 have hx := h2 (by omega)
 obtain ⟨j, rfl⟩ := Int.eq_ofNat_of_zero_le h0
 have hj : j < m := by omega
 obtain ⟨v, hv5, hv⟩ := HL.out j hj
 have hv1 : w1.cell? ⟨b, off + j, none⟩ = some (.string v) := by rw [hw.cell hb hbp]; exact hv
 clear h2 h3 hv
 go_wp2_with fail
 go_ret
 exact ⟨v, rfl, hv5, hc, hw⟩
attribute [-go_sem] loadCells storeCells in
set_option maxRecDepth 100000 in
set_option maxHeartbeats 16000000 in
theorem l21DrawLine_any (B p : Nat) (w : World) (hcur : CurOk w B p) :
 Calls Tryz.prog 34 #[.pointer (some ⟨p, 0, none⟩)] w fun e w' => ∃ s : ByteArray, e = .returned (.string s) ∧ s.size ≤ 900 ∧ CurOk w' B p ∧ BelP w.heap.size p w w' := by
 have hpB := hcur.lt
 have hp : p < w.heap.size := hpB.1
 have hB : B ≤ p := hpB.2
 clear hpB
 go_enter Tryz.func34, Tryz.ntmps34
 go_wp2_with fail
 refine (l21DrawOp_any B p _ hcur).mono ?_
 rintro e v1 ⟨k, nd, tt, a, b, tx, P, L, c, rfl, hx, hm, ho, C, N⟩
 have HLs : Hid (LsO v1 P L.length c (gI L)) := own_lso ho
 clear ho
 go_wp2_with fail
 refine (specOpLine_any k nd tt a b tx P L.length c (gI L) _ (by unfold maxLen; omega) (by unfold maxLen; omega) HLs.out).mono ?_
 rintro e v2 ⟨rfl, b2⟩
 have hs4 : (olO k nd tt a b tx L.length (gI L)).size ≤ 400 := oL_size ⟨k, nd, tt, a, b, tx, L.length, gI L⟩
 have hsz : w.heap.size ≤ v2.heap.size := Nat.le_trans N.2.2.2.1 b2.size
 replace C := C.below b2
 replace N := N.trans (bel_P b2 N.2.2.2.1)
 generalize olO k nd tt a b tx L.length (gI L) = s1 at *
 generalize opB k nd tt a b tx L.length (gI L) = bo at *
 clear b2 HLs hcur v1 hx hm
 cases bo
 ·clear hs4
  go_upto_region 4 with fail
  obtain ⟨s, hs⟩ : ∃ s : ByteArray, s = ⟨#[98, 111, 111, 116, 32, 48]⟩ := ⟨_, rfl⟩
  have hs4 : s.size ≤ 400 := by rw [hs]; decide
  rw [← hs]
  clear hs
  go_wp2_with fail
  refine (l1Once_any B p 3 v2 C).mono ?_
  rintro e v3 ⟨bo, rfl, cc, bb⟩
  replace N := N.trans (bb.belP (by omega))
  have hsz3 : w.heap.size ≤ v3.heap.size := by have := bb.2.2.2.1; omega
  clear C bb hsz
  have C := cc
  clear cc
  cases bo
  ·go_wp2_with fail
   go_ret
   exact ⟨_, rfl, by omega, C, N⟩
  ·go_wp2_with fail
   refine (l1Below_any B p _ v3 C).mono ?_
   rintro e v4 ⟨x, rfl, x0, x1, xp, xz, cc, bb⟩
   have hx2 := xp (by omega)
   clear xp xz x1
   obtain ⟨i, rfl⟩ := Int.eq_ofNat_of_zero_le x0
   have hi : i ≤ s.size := by omega
   have hi2 : (i : Int) ≤ (s.size : Int) := by omega
   obtain ⟨j, hj, hmn⟩ := imn_nat i s.size
   have hj2 : (j : Int) ≤ (s.size : Int) := by omega
   have hj0 : (0 : Int) ≤ (j : Int) := by omega
   have hwi : IntKind.i64.wrap ((i : Int) + 1) = (i : Int) + 1 := Go.IntWalk.i64_in _ ⟨by omega, by omega⟩
   clear hx2
   replace N := N.trans (bb.belP (by omega))
   have hsz4 : w.heap.size ≤ v4.heap.size := by have := bb.2.2.2.1; omega
   have hpv : p < v4.heap.size := by have := bb.2.2.2.1; omega
   clear C bb hsz3
   have C := cc
   clear cc
   have A6 := Below.nw v4 (.cells #[.string ⟨#[32]⟩, .string ⟨#[48]⟩, .string ⟨#[45]⟩, .string ⟨#[120]⟩, .string ⟨#[57]⟩, .string ⟨#[97]⟩, .string ⟨#[35]⟩, .string ⟨#[32, 32]⟩, .string ⟨#[112, 97, 115, 115]⟩, .string ⟨#[10]⟩, .string ⟨#[49, 48, 48, 48, 48, 48, 48, 48, 48, 48]⟩] 9)
   have QL := StB.new v4
   replace C := C.below A6
   replace N := N.trans (bel_P A6 (by omega))
   have hsz := Nat.le_trans hsz4 A6.size
   have hg : p ≠ v4.heap.size := by omega
   clear A6 hsz4 hpv
   go_upto_region 8 with fail
   generalize v4.alloc (.cells #[.string ⟨#[32]⟩, .string ⟨#[48]⟩, .string ⟨#[45]⟩, .string ⟨#[120]⟩, .string ⟨#[57]⟩, .string ⟨#[97]⟩, .string ⟨#[35]⟩, .string ⟨#[32, 32]⟩, .string ⟨#[112, 97, 115, 115]⟩, .string ⟨#[10]⟩, .string ⟨#[49, 48, 48, 48, 48, 48, 48, 48, 48, 48]⟩] 9) = v5 at *
   generalize v4.heap.size = g at *
   clear v4
   rename_i v4'
   go_wp2_with fail
   refine (l1Below_any B p 3 v5 C).mono ?_
   rintro e v6 ⟨y, rfl, y0, y1, yp, yz, cc, bb⟩
   have hy2 := yp (by omega)
   clear yp yz y1
   replace QL := QL.but bb (by omega)
   replace N := N.trans (bb.belP (by omega))
   have hsz6 : w.heap.size ≤ v6.heap.size := by have := bb.2.2.2.1; omega
   clear C bb hsz
   have C := cc
   have hsz := hsz6
   clear cc hsz6
   clear v5
   generalize v6 = v5 at *
   have hy : y = 0 ∨ y = 1 ∨ y = 2 := by omega
   rcases hy with rfl | rfl | rfl
   ·go_wp2_with fail
    go_ret
    exact ⟨_, rfl, by simp only [ByteArray.size_extract]; omega, C, N⟩
   ·go_upto_region 12 with fail
    refine wp_region_held_drew (S := (fun _ => True)) (by kernel_rfl) ?_ (fun hHeld => ?_)
    ·trivial
    replace C := C.drew
    replace N : BelP w.heap.size p w v5.drew := N
    replace QL : StB v5.drew g := QL
    replace hsz : w.heap.size ≤ v5.drew.heap.size := hsz
    generalize v5.drew = vx at *
    refine zTk 0 ?_
    refine zTk 1 ?_
    refine zTk 2 ?_
    refine zTk 3 ?_
    refine zTk 4 ?_
    refine zTk 7 ?_
    refine zTk 8 ?_
    refine zTk 9 ?_
    refine zTk 10 ?_
    refine zTk 11 ?_
    refine wpAnyH_ready (rs := [5]) (by kernel_rfl) (by simp) ?_
    refine (AllReadyH.cons (by rw [List.getElem?_toArray]; rfl) (fun K hK => ?_) AllReadyH.nil)
    go_simp
    refine (l1Pick_any B p g 0 11 11 vx C (by decide) (by decide) QL.1 (by omega) (fun j hj => by rw [Nat.zero_add]; exact QL.2 j hj)).mono ?_; rintro e vy ⟨t, rfl, ht, cc, bb⟩; (replace N := N.trans (bb.belP (by omega))); (have hsz2 : w.heap.size ≤ vy.heap.size := by have := bb.2.2.2.1; omega); (clear C bb QL hsz); (have C := cc); (clear cc); (have hsz := hsz2); (clear hsz2 vx); (generalize vy = vx at *); (have hk1 : ¬ 9223372036854775807 < i + t.size := by omega); (have hk2 : ¬ 9223372036854775807 < i + t.size + (s.size - j) := by omega); (have hk3 : ¬ 9223372036854775807 < i + t.size + (s.size - i) := by omega)
    (try go_wp2_with fail)
    refine hK.out _ _ ?_ (fun hHeld => ?_)
    ·trivial
    clear hK K
    (try simp only [Act.put, zSb, zS0, zS1])
    refine zTk 6 ?_
    refine wpAnyH_ready (rs := [12]) (by kernel_rfl) (by simp) ?_
    refine (AllReadyH.cons (by rw [List.getElem?_toArray]; rfl) (fun K hK => ?_) AllReadyH.nil)
    go_simp
    refine (l1Min_any _ _ _).mono ?_; rintro e vy ⟨rfl, rfl⟩; (try rw [hmn])
    (try go_wp2_with fail)
    refine hK.out _ _ ?_ (fun hHeld => ?_)
    ·trivial
    clear hK K
    (try simp only [Act.put, zSb, zS0, zS1])
    refine zTk 13 ?_
    refine zTk 14 ?_
    refine zTk 15 ?_
    refine wpAnyH_done (by kernel_rfl) ?_ _
    (try go_simp)
    (try go_wp2_with fail)
    (try go_ret)
    exact ⟨_, rfl, by simp only [ByteArray.size_append, ByteArray.size_extract]; omega, C, N⟩
   ·go_upto_region 13 with fail
    refine wp_region_held_drew (S := (fun _ => True)) (by kernel_rfl) ?_ (fun hHeld => ?_)
    ·trivial
    replace C := C.drew
    replace N : BelP w.heap.size p w v5.drew := N
    replace QL : StB v5.drew g := QL
    replace hsz : w.heap.size ≤ v5.drew.heap.size := hsz
    generalize v5.drew = vx at *
    refine zTk 0 ?_
    refine zTk 1 ?_
    refine zTk 2 ?_
    refine zTk 3 ?_
    refine zTk 4 ?_
    refine zTk 7 ?_
    refine zTk 8 ?_
    refine zTk 9 ?_
    refine wpAnyH_ready (rs := [5]) (by kernel_rfl) (by simp) ?_
    refine (AllReadyH.cons (by rw [List.getElem?_toArray]; rfl) (fun K hK => ?_) AllReadyH.nil)
    go_simp
    refine (l1Pick_any B p g 0 11 11 vx C (by decide) (by decide) QL.1 (by omega) (fun j hj => by rw [Nat.zero_add]; exact QL.2 j hj)).mono ?_; rintro e vy ⟨t, rfl, ht, cc, bb⟩; (replace N := N.trans (bb.belP (by omega))); (have hsz2 : w.heap.size ≤ vy.heap.size := by have := bb.2.2.2.1; omega); (clear C bb QL hsz); (have C := cc); (clear cc); (have hsz := hsz2); (clear hsz2 vx); (generalize vy = vx at *); (have hk1 : ¬ 9223372036854775807 < i + t.size := by omega); (have hk2 : ¬ 9223372036854775807 < i + t.size + (s.size - j) := by omega); (have hk3 : ¬ 9223372036854775807 < i + t.size + (s.size - i) := by omega)
    (try go_wp2_with fail)
    refine hK.out _ _ ?_ (fun hHeld => ?_)
    ·trivial
    clear hK K
    (try simp only [Act.put, zSb, zS0, zS1])
    refine zTk 6 ?_
    refine zTk 10 ?_
    refine zTk 11 ?_
    refine wpAnyH_done (by kernel_rfl) ?_ _
    (try go_simp)
    (try go_wp2_with fail)
    (try go_ret)
    exact ⟨_, rfl, by simp only [ByteArray.size_append, ByteArray.size_extract]; omega, C, N⟩
 ·generalize s1 = s at *
  go_wp2_with fail
  refine (l1Once_any B p 3 v2 C).mono ?_
  rintro e v3 ⟨bo, rfl, cc, bb⟩
  replace N := N.trans (bb.belP (by omega))
  have hsz3 : w.heap.size ≤ v3.heap.size := by have := bb.2.2.2.1; omega
  clear C bb hsz
  have C := cc
  clear cc
  cases bo
  ·go_wp2_with fail
   go_ret
   exact ⟨_, rfl, by omega, C, N⟩
  ·go_wp2_with fail
   refine (l1Below_any B p _ v3 C).mono ?_
   rintro e v4 ⟨x, rfl, x0, x1, xp, xz, cc, bb⟩
   have hx2 := xp (by omega)
   clear xp xz x1
   obtain ⟨i, rfl⟩ := Int.eq_ofNat_of_zero_le x0
   have hi : i ≤ s.size := by omega
   have hi2 : (i : Int) ≤ (s.size : Int) := by omega
   obtain ⟨j, hj, hmn⟩ := imn_nat i s.size
   have hj2 : (j : Int) ≤ (s.size : Int) := by omega
   have hj0 : (0 : Int) ≤ (j : Int) := by omega
   have hwi : IntKind.i64.wrap ((i : Int) + 1) = (i : Int) + 1 := Go.IntWalk.i64_in _ ⟨by omega, by omega⟩
   clear hx2
   replace N := N.trans (bb.belP (by omega))
   have hsz4 : w.heap.size ≤ v4.heap.size := by have := bb.2.2.2.1; omega
   have hpv : p < v4.heap.size := by have := bb.2.2.2.1; omega
   clear C bb hsz3
   have C := cc
   clear cc
   have A6 := Below.nw v4 (.cells #[.string ⟨#[32]⟩, .string ⟨#[48]⟩, .string ⟨#[45]⟩, .string ⟨#[120]⟩, .string ⟨#[57]⟩, .string ⟨#[97]⟩, .string ⟨#[35]⟩, .string ⟨#[32, 32]⟩, .string ⟨#[112, 97, 115, 115]⟩, .string ⟨#[10]⟩, .string ⟨#[49, 48, 48, 48, 48, 48, 48, 48, 48, 48]⟩] 9)
   have QL := StB.new v4
   replace C := C.below A6
   replace N := N.trans (bel_P A6 (by omega))
   have hsz := Nat.le_trans hsz4 A6.size
   have hg : p ≠ v4.heap.size := by omega
   clear A6 hsz4 hpv
   go_upto_region 8 with fail
   generalize v4.alloc (.cells #[.string ⟨#[32]⟩, .string ⟨#[48]⟩, .string ⟨#[45]⟩, .string ⟨#[120]⟩, .string ⟨#[57]⟩, .string ⟨#[97]⟩, .string ⟨#[35]⟩, .string ⟨#[32, 32]⟩, .string ⟨#[112, 97, 115, 115]⟩, .string ⟨#[10]⟩, .string ⟨#[49, 48, 48, 48, 48, 48, 48, 48, 48, 48]⟩] 9) = v5 at *
   generalize v4.heap.size = g at *
   clear v4
   rename_i v4'
   go_wp2_with fail
   refine (l1Below_any B p 3 v5 C).mono ?_
   rintro e v6 ⟨y, rfl, y0, y1, yp, yz, cc, bb⟩
   have hy2 := yp (by omega)
   clear yp yz y1
   replace QL := QL.but bb (by omega)
   replace N := N.trans (bb.belP (by omega))
   have hsz6 : w.heap.size ≤ v6.heap.size := by have := bb.2.2.2.1; omega
   clear C bb hsz
   have C := cc
   have hsz := hsz6
   clear cc hsz6
   clear v5
   generalize v6 = v5 at *
   have hy : y = 0 ∨ y = 1 ∨ y = 2 := by omega
   rcases hy with rfl | rfl | rfl
   ·go_wp2_with fail
    go_ret
    exact ⟨_, rfl, by simp only [ByteArray.size_extract]; omega, C, N⟩
   ·go_upto_region 12 with fail
    refine wp_region_held_drew (S := (fun _ => True)) (by kernel_rfl) ?_ (fun hHeld => ?_)
    ·trivial
    replace C := C.drew
    replace N : BelP w.heap.size p w v5.drew := N
    replace QL : StB v5.drew g := QL
    replace hsz : w.heap.size ≤ v5.drew.heap.size := hsz
    generalize v5.drew = vx at *
    refine zTk 0 ?_
    refine zTk 1 ?_
    refine zTk 2 ?_
    refine zTk 3 ?_
    refine zTk 4 ?_
    refine zTk 7 ?_
    refine zTk 8 ?_
    refine zTk 9 ?_
    refine zTk 10 ?_
    refine zTk 11 ?_
    refine wpAnyH_ready (rs := [5]) (by kernel_rfl) (by simp) ?_
    refine (AllReadyH.cons (by rw [List.getElem?_toArray]; rfl) (fun K hK => ?_) AllReadyH.nil)
    go_simp
    refine (l1Pick_any B p g 0 11 11 vx C (by decide) (by decide) QL.1 (by omega) (fun j hj => by rw [Nat.zero_add]; exact QL.2 j hj)).mono ?_; rintro e vy ⟨t, rfl, ht, cc, bb⟩; (replace N := N.trans (bb.belP (by omega))); (have hsz2 : w.heap.size ≤ vy.heap.size := by have := bb.2.2.2.1; omega); (clear C bb QL hsz); (have C := cc); (clear cc); (have hsz := hsz2); (clear hsz2 vx); (generalize vy = vx at *); (have hk1 : ¬ 9223372036854775807 < i + t.size := by omega); (have hk2 : ¬ 9223372036854775807 < i + t.size + (s.size - j) := by omega); (have hk3 : ¬ 9223372036854775807 < i + t.size + (s.size - i) := by omega)
    (try go_wp2_with fail)
    refine hK.out _ _ ?_ (fun hHeld => ?_)
    ·trivial
    clear hK K
    (try simp only [Act.put, zSb, zS0, zS1])
    refine zTk 6 ?_
    refine wpAnyH_ready (rs := [12]) (by kernel_rfl) (by simp) ?_
    refine (AllReadyH.cons (by rw [List.getElem?_toArray]; rfl) (fun K hK => ?_) AllReadyH.nil)
    go_simp
    refine (l1Min_any _ _ _).mono ?_; rintro e vy ⟨rfl, rfl⟩; (try rw [hmn])
    (try go_wp2_with fail)
    refine hK.out _ _ ?_ (fun hHeld => ?_)
    ·trivial
    clear hK K
    (try simp only [Act.put, zSb, zS0, zS1])
    refine zTk 13 ?_
    refine zTk 14 ?_
    refine zTk 15 ?_
    refine wpAnyH_done (by kernel_rfl) ?_ _
    (try go_simp)
    (try go_wp2_with fail)
    (try go_ret)
    exact ⟨_, rfl, by simp only [ByteArray.size_append, ByteArray.size_extract]; omega, C, N⟩
   ·go_upto_region 13 with fail
    refine wp_region_held_drew (S := (fun _ => True)) (by kernel_rfl) ?_ (fun hHeld => ?_)
    ·trivial
    replace C := C.drew
    replace N : BelP w.heap.size p w v5.drew := N
    replace QL : StB v5.drew g := QL
    replace hsz : w.heap.size ≤ v5.drew.heap.size := hsz
    generalize v5.drew = vx at *
    refine zTk 0 ?_
    refine zTk 1 ?_
    refine zTk 2 ?_
    refine zTk 3 ?_
    refine zTk 4 ?_
    refine zTk 7 ?_
    refine zTk 8 ?_
    refine zTk 9 ?_
    refine wpAnyH_ready (rs := [5]) (by kernel_rfl) (by simp) ?_
    refine (AllReadyH.cons (by rw [List.getElem?_toArray]; rfl) (fun K hK => ?_) AllReadyH.nil)
    go_simp
    refine (l1Pick_any B p g 0 11 11 vx C (by decide) (by decide) QL.1 (by omega) (fun j hj => by rw [Nat.zero_add]; exact QL.2 j hj)).mono ?_; rintro e vy ⟨t, rfl, ht, cc, bb⟩; (replace N := N.trans (bb.belP (by omega))); (have hsz2 : w.heap.size ≤ vy.heap.size := by have := bb.2.2.2.1; omega); (clear C bb QL hsz); (have C := cc); (clear cc); (have hsz := hsz2); (clear hsz2 vx); (generalize vy = vx at *); (have hk1 : ¬ 9223372036854775807 < i + t.size := by omega); (have hk2 : ¬ 9223372036854775807 < i + t.size + (s.size - j) := by omega); (have hk3 : ¬ 9223372036854775807 < i + t.size + (s.size - i) := by omega)
    (try go_wp2_with fail)
    refine hK.out _ _ ?_ (fun hHeld => ?_)
    ·trivial
    clear hK K
    (try simp only [Act.put, zSb, zS0, zS1])
    refine zTk 6 ?_
    refine zTk 10 ?_
    refine zTk 11 ?_
    refine wpAnyH_done (by kernel_rfl) ?_ _
    (try go_simp)
    (try go_wp2_with fail)
    (try go_ret)
    exact ⟨_, rfl, by simp only [ByteArray.size_append, ByteArray.size_extract]; omega, C, N⟩
attribute [-go_sem] loadCells storeCells in
set_option maxRecDepth 100000 in
set_option maxHeartbeats 16000000 in
theorem DrawOpLine_any (a : Option Addr) (n c : Nat) (w : World) (hn : n ≤ 1048576) (hcode : CodeB w w.heap.size a n) :
 Calls Tryz.prog 6 #[.slice a n c] w fun e w' => ∃ (k nd tt a b : Int) (tx : ByteArray) (P : Option Addr) (L : List Int) (c : Nat), e = .returned (.agg #[.int .i64 k, .int .i64 nd, .int .i64 tt, .int .i64 a, .int .i64 b, .string tx, .slice P L.length c]) ∧ tx.size ≤ 100 ∧ L.length ≤ 8 ∧ w'.ownsRow w.heap.size 3 1 (.slice P L.length c) L.length (irow L) ∧ Below w.heap.size w w' := by
 have A1 := Below.nw w (.cells #[.int .i64 0, .int .i64 0, .int .i64 0, .int .i64 0, .int .i64 0, .string ⟨#[]⟩, .slice none 0 0] 26)
 have R := Bo.new w #[.int .i64 0, .int .i64 0, .int .i64 0, .int .i64 0, .int .i64 0, .string ⟨#[]⟩, .slice none 0 0] 26
 have hcode1 : CodeB (w.alloc (.cells #[.int .i64 0, .int .i64 0, .int .i64 0, .int .i64 0, .int .i64 0, .string ⟨#[]⟩, .slice none 0 0] 26)) (w.alloc (.cells #[.int .i64 0, .int .i64 0, .int .i64 0, .int .i64 0, .int .i64 0, .string ⟨#[]⟩, .slice none 0 0] 26)).heap.size a n := (hcode.below A1).more A1.size
 have hsz : w.heap.size < (w.alloc (.cells #[.int .i64 0, .int .i64 0, .int .i64 0, .int .i64 0, .int .i64 0, .string ⟨#[]⟩, .slice none 0 0] 26)).heap.size := by simp
 clear hcode
 go_enter Tryz.func6, Tryz.ntmps6
 go_upto_region 1 with fail
 generalize w.alloc (.cells #[.int .i64 0, .int .i64 0, .int .i64 0, .int .i64 0, .int .i64 0, .string ⟨#[]⟩, .slice none 0 0] 26) = v0 at *
 go_wp2_with fail
 refine (l1New_any a n c _ hn hcode1).mono ?_
 rintro e w1 ⟨p, rfl, hc, hb⟩
 have hl := hc.lt
 have hv1 := hb.size
 replace R := R.below hb
 replace A1 := A1.trans (hb.mono (by omega))
 clear hb hcode1
 go_wp2_with fail
 refine (l21DrawOp_any _ p _ hc).mono ?_
 rintro e w2 ⟨k, nd, tt, a2, b, tx, P, L, c2, rfl, hx, hm, ho, hc2, hb2⟩
 replace R := R.but hb2.but (by omega)
 have hne : ∀ q, (Value.slice P L.length c2).ownBlock = some q → q ≠ w.heap.size := fun q hq => by have := (World.ownsRow.lt ho q hq).1; omega
 have OW := own_baseX ho (show w.heap.size ≤ w1.heap.size by omega)
 replace A1 := A1.trans (hb2.below (B := w.heap.size) (by omega) (by omega))
 have hst := Bo.store (P := Tryz.prog) (b := 0) [.int .i64 k, .int .i64 nd, .int .i64 tt, .int .i64 a2, .int .i64 b, .string tx, .slice P L.length c2] 0 0 R rfl (by simp) (by intro u hu; simp only [List.mem_cons, List.not_mem_nil, or_false] at hu; rcases hu with h | h | h | h | h | h | h <;> (subst h; rfl))
 have R9 : Bo (putA w2 w.heap.size 0 [.int .i64 k, .int .i64 nd, .int .i64 tt, .int .i64 a2, .int .i64 b, .string tx, .slice P L.length c2]) w.heap.size #[.int .i64 k, .int .i64 nd, .int .i64 tt, .int .i64 a2, .int .i64 b, .string tx, .slice P L.length c2] := R.putW (U := #[.int .i64 k, .int .i64 nd, .int .i64 tt, .int .i64 a2, .int .i64 b, .string tx, .slice P L.length c2]) rfl
 have OW9 := own_neK OW (putA_but [.int .i64 k, .int .i64 nd, .int .i64 tt, .int .i64 a2, .int .i64 b, .string tx, .slice P L.length c2] w2 w2 0 (But.refl w.heap.size w2)) hne
 have A9 : Below w.heap.size w (putA w2 w.heap.size 0 [.int .i64 k, .int .i64 nd, .int .i64 tt, .int .i64 a2, .int .i64 b, .string tx, .slice P L.length c2]) := A1.trans ((putA_but [.int .i64 k, .int .i64 nd, .int .i64 tt, .int .i64 a2, .int .i64 b, .string tx, .slice P L.length c2] w2 w2 0 (But.refl w.heap.size w2)).below (Nat.le_refl _) (by have := A1.size; omega))
 have HW : Hid (_ ∧ _ ∧ _) := ⟨R9, OW9, A9⟩
 clear R9 OW9 A9 R OW A1 hc hc2 hb2 ho hne hl hv1
 go_wp2_with (rw [hst])
 (try go_simp)
 (try go_wp2_with fail)
 clear hst
 generalize putA w2 w.heap.size 0 [.int .i64 k, .int .i64 nd, .int .i64 tt, .int .i64 a2, .int .i64 b, .string tx, .slice P L.length c2] = vz at *
 have hL := HW.out.1.load (P := Tryz.prog) (n := 7) rfl
 (try simp only [Exit.inBlock, Exit.then])
 exact bodyPost_ret (v := .agg #[.int .i64 k, .int .i64 nd, .int .i64 tt, .int .i64 a2, .int .i64 b, .string tx, .slice P L.length c2]) (by simp [results, Tryz.results6, go_sem]; rw [hL]; rfl) rfl ⟨k, nd, tt, a2, b, tx, P, L, c2, rfl, hx, hm, HW.out.2.1, HW.out.2.2⟩
attribute [-go_sem] loadCells storeCells in
set_option maxRecDepth 100000 in
set_option maxHeartbeats 16000000 in
theorem DrawParseOp_any (a : Option Addr) (n c : Nat) (w : World) (hn : n ≤ 1048576) (hcode : CodeB w w.heap.size a n) :
 Calls Tryz.prog 11 #[.slice a n c] w fun e w' => ∃ s : ByteArray, e = .returned (.string s) ∧ s.size ≤ 900 ∧ Below w.heap.size w w' := by
 go_enter Tryz.func11, Tryz.ntmps11
 go_wp2_with fail
 refine (l1New_any a n c _ hn hcode).mono ?_
 rintro e w1 ⟨p, rfl, hc, hb⟩
 have hl := hc.lt
 go_wp2_with fail
 refine (l21DrawLine_any _ p _ hc).mono ?_
 rintro e w2 ⟨s, rfl, hs, hc2, hb2⟩
 go_wp2_with fail
 go_ret
 exact ⟨s, rfl, hs, hb.trans (hb2.below hb.size hl.2)⟩

end Go.Proofs.YtddjiamollfplaaGreatDoor
