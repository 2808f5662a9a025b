/- Which worlds are right. How many liars a world has: the specification, the program. The walk of the exact law of WorldLies. -/
import Derived.Test.YtddijpjgkifngaaGreatM0
import Derived.Test.YtddijpjgkifngaaGreatM45
namespace Go.Proofs.YtddijpjgkifngaaGreat
open Go.RowKit
set_option linter.unusedVariables false
theorem wdAll_get {f : Nat → Bool} : ∀ {n : Nat}, wdAll f n = true → ∀ i, i < n → f i = true
 | 0, _, i, hi => absurd hi (Nat.not_lt_zero _)
 | n + 1, h, i, hi => by
  rw [wdAll, Bool.and_eq_true] at h
  by_cases e : i = n
  ·subst e; exact h.2
  ·exact wdAll_get h.1 i (by omega)
theorem wdOk_parts {x : WdX} (h : wdOk x = true) : cokX x.y = true ∧ okT x.ti = true ∧ (1 ≤ x.nn ∧ x.nn ≤ 8) ∧ x.nl = x.nn ∧ x.nc = x.nn ∧ (∀ i, i < x.nn → wdNo x i = true) ∧ (∀ i, i < x.nf → wdFl x i = true) ∧ netB x.nx x.FM x.nf = true ∧ (∀ i, i < x.nb → wdFr x i = true) ∧ buB x.BM x.nb = true := by
 unfold wdOk wdNds wdNeb wdBub at h
 simp only [Bool.and_eq_true] at h
 obtain ⟨h1, h2, ⟨h3, h4, h5, h6⟩, ⟨h7, h8⟩, h9, h10⟩ := h
 exact ⟨h1, h2, of_decide_eq_true h3, of_decide_eq_true h4, of_decide_eq_true h5, wdAll_get h6, wdAll_get h7, h8, wdAll_get h9, h10⟩
end Go.Proofs.YtddijpjgkifngaaGreat
namespace Go.Proofs.YtddijpjgkifngaaGreat
open Go.RowKit
set_option linter.unusedVariables false
def lyC (f : Nat → Bool) : Nat → Nat
 | 0 => 0
 | k + 1 => match f k with | true => lyC f k + 1 | false => lyC f k
theorem lyC_t {f : Nat → Bool} {k : Nat} (h : f k = true) : lyC f (k + 1) = lyC f k + 1 := by rw [lyC, h]
theorem lyC_f {f : Nat → Bool} {k : Nat} (h : f k = false) : lyC f (k + 1) = lyC f k := by rw [lyC, h]
theorem lyC_le (f : Nat → Bool) : ∀ k, lyC f k ≤ k
 | 0 => Nat.le_refl _
 | k + 1 => by
  have := lyC_le f k
  rw [lyC]
  cases f k <;> simp only <;> omega
def lieI (x : WdX) : Int := match wdOk x with | true => (lyC x.LB x.nl : Int) | false => -1
theorem lie_t {x : WdX} (h : wdOk x = true) : lieI x = (lyC x.LB x.nl : Int) := by rw [lieI, h]
theorem lie_f {x : WdX} (h : wdOk x = false) : lieI x = -1 := by rw [lieI, h]
attribute [-go_sem] loadCells storeCells in
set_option maxRecDepth 100000 in
set_option maxHeartbeats 16000000 in
theorem specWorldLiesW (A : Array Value) (x : WdX) (w : World) (h : WdW w A x) (ht : txW x) :
 Calls Tryz.prog 24 #[.agg A] w fun e w' => e = .returned (.int .i64 (lieI x)) ∧ Below w.heap.size w w' := by
 have HH := h
 have CK := fun (v : World) (hv : Below w.heap.size w v) => specWorldOkW A x v (HH.below hv) ht
 clear HH ht
 obtain ⟨p, d, la, lc, ca, cc, na, nk, fa, fc, ba, bc, rfl, hm, h1, h2, h3, h4, h5, h6⟩ := h
 have H2 : Hid (SrcC w la x.nl (boG x.LB)) := h2
 have HT : Hid (wdOk x = true → lieI x = (lyC x.LB x.nl : Int)) := lie_t
 have HF : Hid (wdOk x = false → lieI x = -1) := lie_f
 have H8 : Hid (wdOk x = true → x.nl ≤ 8) := fun h => by have q := wdOk_parts h; omega
 clear h1 h2 h3 h4 h5 h6 hm
 generalize lieI x = X at *
 generalize wdOk x = ok at *
 have A0 := Below.nw w (.cells (wdV x p d la lc ca cc na nk fa fc ba bc) 52)
 have L := Bo.new w (wdV x p d la lc ca cc na nk fa fc ba bc) 52
 have B := A0
 clear A0
 go_enter Tryz.func24, Tryz.ntmps24
 go_upto_region 1 with fail
 generalize w.alloc (.cells (wdV x p d la lc ca cc na nk fa fc ba bc) 52) = v0 at *
 have hL0 := L.load (P := Tryz.prog) (show ((wdV x p d la lc ca cc na nk fa fc ba bc) : Array Value).size = 18 from rfl)
 go_wp2_with (rw [hL0])
 refine (CK v0 B).mono ?_
 rintro e v1 ⟨rfl, hb⟩
 clear hL0
 replace B := B.trans (hb.mono B.size)
 replace L := L.below hb
 clear hb
 cases ok
 ·have hE := HF.out rfl
  clear HF HT H8 CK
  go_wp2_with fail
  go_ret
  exact ⟨by first | (rw [hE]; rfl) | rfl, B⟩
 have hE := HT.out rfl
 have h8 := H8.out rfl
 clear HF HT H8 CK
 have HE : Hid (X = (lyC x.LB x.nl : Int)) := hE
 clear hE
 have hL0 : v1.cell? ⟨w.heap.size, 11, none⟩ = some (.slice la x.nl lc) := L.cell rfl
 go_wp2_with fail
 clear hL0
 go_loopw [3, 4] (fun l i wr => ∃ k : Nat, k ≤ x.nl ∧ i = .int .i64 (k : Int) ∧ l = .int .i64 ((lyC x.LB k : Nat) : Int) ∧ Bo wr w.heap.size (wdV x p d la lc ca cc na nk fa fc ba bc) ∧ Below w.heap.size w wr) (fun _ i _ => x.nl - (intOf i).toNat)
 case atStart => exact ⟨0, Nat.zero_le _, rfl, rfl, L, B⟩
 case round =>
  clear L B
  obtain ⟨k, hk, rfl, rfl, L, B⟩ := hrel
  have hly := lyC_le x.LB k
  have c11 : wr.cell? ⟨w.heap.size, 11, none⟩ = some (.slice la x.nl lc) := L.cell rfl
  by_cases hlt : k < x.nl
  ·have hli : (k : Int) < (x.nl : Int) := by omega
   obtain ⟨bb, bo, rfl, hf⟩ : ∃ b off, la = some ⟨b, off, none⟩ ∧ Cs w b off x.nl (boG x.LB) := by
    rcases H2.out with q | q
    ·omega
    ·exact q
   have cb : wr.cell? ⟨bb, bo + k, none⟩ = some (.bool (x.LB k)) := (hf.below B hf.1).2 k hlt
   have hyt : x.LB k = true → lyC x.LB (k + 1) = lyC x.LB k + 1 := lyC_t
   have hyf : x.LB k = false → lyC x.LB (k + 1) = lyC x.LB k := lyC_f
   have HYT : Hid (x.LB k = true → lyC x.LB (k + 1) = lyC x.LB k + 1) := hyt
   have HYF : Hid (x.LB k = false → lyC x.LB (k + 1) = lyC x.LB k) := hyf
   clear hyt hyf hf H2
   generalize lyC x.LB k = c at *
   cases hb0 : x.LB k
   ·have HR := HYF.out hb0
    have HR2 : Hid (lyC x.LB (k + 1) = c) := HR
    rw [hb0] at cb
    clear HYT HYF HR hb0
    go_wp2_with fail
    go_roundw
    case rel => exact ⟨k + 1, by omega, by go_num, by rw [HR2.out], L, B⟩
    case measure => simp [intOf]; omega
   ·have HR := HYT.out hb0
    have HR2 : Hid (lyC x.LB (k + 1) = c + 1) := HR
    rw [hb0] at cb
    clear HYT HYF HR hb0
    go_wp2_with fail
    go_roundw
    case rel => exact ⟨k + 1, by omega, by go_num, by rw [HR2.out]; go_num, L, B⟩
    case measure => simp [intOf]; omega
  have hkn : k = x.nl := by omega
  have hli : ¬ (k : Int) < (x.nl : Int) := by omega
  have HE2 : Hid (X = ((lyC x.LB k : Nat) : Int)) := by (show X = _; rw [HE.out, ← hkn])
  clear HE hkn hlt hk H2
  go_wp2_with fail
  go_ret
  exact ⟨by first | (rw [HE2.out]; rfl) | rw [HE2.out], B⟩
attribute [-go_sem] loadCells storeCells in
set_option maxRecDepth 100000 in
set_option maxHeartbeats 16000000 in
theorem implWorldLiesW (A : Array Value) (x : WdX) (w : World) (h : WdW w A x) (ht : txW x)  (hwf : wfWd x) :
 Calls Tryz.prog 25 #[.agg A] w fun e w' => e = .returned (.int .i64 (lieI x)) ∧ Below w.heap.size w w' := by
 have HH := h
 have CK := fun (v : World) (hv : Below w.heap.size w v) => worldokW A x v (HH.below hv) ht hwf
 clear HH ht hwf
 obtain ⟨p, d, la, lc, ca, cc, na, nk, fa, fc, ba, bc, rfl, hm, h1, h2, h3, h4, h5, h6⟩ := h
 have H2 : Hid (SrcC w la x.nl (boG x.LB)) := h2
 have HT : Hid (wdOk x = true → lieI x = (lyC x.LB x.nl : Int)) := lie_t
 have HF : Hid (wdOk x = false → lieI x = -1) := lie_f
 have H8 : Hid (wdOk x = true → x.nl ≤ 8) := fun h => by have q := wdOk_parts h; omega
 clear h1 h2 h3 h4 h5 h6 hm
 generalize lieI x = X at *
 generalize wdOk x = ok at *
 have A0 := Below.nw w (.cells (wdV x p d la lc ca cc na nk fa fc ba bc) 52)
 have L := Bo.new w (wdV x p d la lc ca cc na nk fa fc ba bc) 52
 have B := A0
 clear A0
 go_enter Tryz.func25, Tryz.ntmps25
 go_upto_region 1 with fail
 generalize w.alloc (.cells (wdV x p d la lc ca cc na nk fa fc ba bc) 52) = v0 at *
 have hL0 := L.load (P := Tryz.prog) (show ((wdV x p d la lc ca cc na nk fa fc ba bc) : Array Value).size = 18 from rfl)
 go_wp2_with (rw [hL0])
 refine (CK v0 B).mono ?_
 rintro e v1 ⟨rfl, hb⟩
 clear hL0
 replace B := B.trans (hb.mono B.size)
 replace L := L.below hb
 clear hb
 cases ok
 ·have hE := HF.out rfl
  clear HF HT H8 CK
  go_wp2_with fail
  go_ret
  exact ⟨by first | (rw [hE]; rfl) | rfl, B⟩
 have hE := HT.out rfl
 have h8 := H8.out rfl
 clear HF HT H8 CK
 have HE : Hid (X = (lyC x.LB x.nl : Int)) := hE
 clear hE
 have hL0 : v1.cell? ⟨w.heap.size, 11, none⟩ = some (.slice la x.nl lc) := L.cell rfl
 go_wp2_with fail
 clear hL0
 go_loopw [3, 12] (fun l i wr => ∃ k : Nat, k ≤ x.nl ∧ i = .int .i64 (k : Int) ∧ l = .int .i64 ((lyC x.LB k : Nat) : Int) ∧ Bo wr w.heap.size (wdV x p d la lc ca cc na nk fa fc ba bc) ∧ Below w.heap.size w wr) (fun _ i _ => x.nl - (intOf i).toNat)
 case atStart => exact ⟨0, Nat.zero_le _, rfl, rfl, L, B⟩
 case round =>
  clear L B
  obtain ⟨k, hk, rfl, rfl, L, B⟩ := hrel
  have hly := lyC_le x.LB k
  have c11 : wr.cell? ⟨w.heap.size, 11, none⟩ = some (.slice la x.nl lc) := L.cell rfl
  by_cases hlt : k < x.nl
  ·have hli : (k : Int) < (x.nl : Int) := by omega
   obtain ⟨bb, bo, rfl, hf⟩ : ∃ b off, la = some ⟨b, off, none⟩ ∧ Cs w b off x.nl (boG x.LB) := by
    rcases H2.out with q | q
    ·omega
    ·exact q
   have cb : wr.cell? ⟨bb, bo + k, none⟩ = some (.bool (x.LB k)) := (hf.below B hf.1).2 k hlt
   have hyt : x.LB k = true → lyC x.LB (k + 1) = lyC x.LB k + 1 := lyC_t
   have hyf : x.LB k = false → lyC x.LB (k + 1) = lyC x.LB k := lyC_f
   have HYT : Hid (x.LB k = true → lyC x.LB (k + 1) = lyC x.LB k + 1) := hyt
   have HYF : Hid (x.LB k = false → lyC x.LB (k + 1) = lyC x.LB k) := hyf
   clear hyt hyf hf H2
   generalize lyC x.LB k = c at *
   cases hb0 : x.LB k
   ·have HR := HYF.out hb0
    have HR2 : Hid (lyC x.LB (k + 1) = c) := HR
    rw [hb0] at cb
    clear HYT HYF HR hb0
    go_wp2_with fail
    go_roundw
    case rel => exact ⟨k + 1, by omega, by go_num, by rw [HR2.out], L, B⟩
    case measure => simp [intOf]; omega
   ·have HR := HYT.out hb0
    have HR2 : Hid (lyC x.LB (k + 1) = c + 1) := HR
    rw [hb0] at cb
    clear HYT HYF HR hb0
    go_wp2_with fail
    go_roundw
    case rel => exact ⟨k + 1, by omega, by go_num, by rw [HR2.out]; go_num, L, B⟩
    case measure => simp [intOf]; omega
  have hkn : k = x.nl := by omega
  have hli : ¬ (k : Int) < (x.nl : Int) := by omega
  have HE2 : Hid (X = ((lyC x.LB k : Nat) : Int)) := by (show X = _; rw [HE.out, ← hkn])
  clear HE hkn hlt hk H2
  go_wp2_with fail
  go_ret
  exact ⟨by first | (rw [HE2.out]; rfl) | rw [HE2.out], B⟩
end Go.Proofs.YtddijpjgkifngaaGreat
namespace Go.Proofs.YtddijpjgkifngaaGreat
open Go.RowKit
set_option linter.unusedVariables false
attribute [-go_sem] loadCells storeCells in
set_option maxRecDepth 100000 in
set_option maxHeartbeats 16000000 in
theorem lawWorldLies (A : Array Value) (x : WdX) (w : World) (HA : WdW w A x) (ht : txW x) (hwf : wfWd x) :
 Calls Tryz.prog 5 #[.agg A] w fun e w' => e = .returned (.bool true) ∧ Below w.heap.size w w' := by
 have B := Below.nw w (.cells A 37)
 have L := Bo.new w A 37
 have hA := HA.size
 have CS := fun (v : World) (hv : Below w.heap.size w v) (R : Array Value) (h : WdS v R x) => specWorldLiesW R x v h.weak ht
 have CP := fun (v : World) (hv : Below w.heap.size w v) (R : Array Value) (h : WdS v R x) => implWorldLiesW R x v h.weak ht hwf
 have CZ := fun (v : World) (h : Below w.heap.size w v) => szWorldW A x v (HA.below h) ht
 generalize lieI x = K at *
 have HS : Hid (WdW w A x) := HA
 clear HA hwf ht
 have hkk : (K != K) = false := by simp
 go_enter Tryz.func5, Tryz.ntmps5
 go_upto_region 2 with fail
 generalize w.alloc (.cells A 37) = v0 at *
 have hL := L.load (P := Tryz.prog) hA
 go_wp2_with (rw [hL])
 refine (CZ v0 B).mono ?_
 rintro e v1 ⟨Z, rfl, hZ, hb⟩
 clear hL CZ
 replace B := B.trans (hb.mono B.size)
 replace L := L.below hb
 clear hb
 by_cases hz : Z < 0
 ·clear CS CP hZ
  go_wp2_with fail
  go_ret
  exact ⟨rfl, B⟩
 have hsh := hZ (by omega)
 clear hZ
 have CT := fun (v : World) (h : Below w.heap.size w v) => toWorldW A x v (HS.out.below h) hsh
 clear hsh
 have hL := L.load (P := Tryz.prog) hA
 go_wp2_with (rw [hL])
 refine (CT _ B).mono ?_
 rintro e v2 ⟨R0, rfl, O0, hb⟩
 clear hL
 replace B := B.trans (hb.mono B.size)
 replace L := L.below hb
 clear hb
 go_wp2_with fail
 refine (CS _ B R0 O0).mono ?_
 clear O0
 rintro e v3 ⟨rfl, hb⟩
 replace B := B.trans (hb.mono B.size)
 replace L := L.below hb
 clear hb
 have hL := L.load (P := Tryz.prog) hA
 go_wp2_with (rw [hL])
 refine (CT _ B).mono ?_
 rintro e v5 ⟨RX, rfl, OX, hb⟩
 clear hL
 replace B := B.trans (hb.mono B.size)
 replace L := L.below hb
 clear hb
 generalize v3.heap.size = lx at *
 have hRX := OX.weak.size
 have hst := storeNew (P := Tryz.prog) v5 (#[.int .i64 0, .int .i64 0, .int .i64 0, .int .i64 0, .int .i64 0, .int .i64 0, .int .i64 0, .int .i64 0, .int .i64 0, .int .i64 0, .slice none 0 0, .slice none 0 0, .int .i64 0, .slice none 0 0, .slice none 0 0, .int .i64 0, .slice none 0 0, .slice none 0 0]) RX 52 (by rw [hRX]; rfl) OX.weak.one
 have hb := Below.nw v5 (.cells RX 52)
 have X := Bo.new v5 RX 52
 go_upto_region 7 with (rw [hst])
 clear hst
 replace B := B.trans (hb.mono B.size)
 replace L := L.below hb
 replace OX := OX.below hb
 clear hb
 generalize v5.alloc (.cells RX 52) = v6 at *
 generalize v5.heap.size = kX at *
 have hL := X.load (P := Tryz.prog) hRX
 go_wp2_with (rw [hL])
 refine (CP _ B RX OX).mono ?_
 rintro e v9 ⟨rfl, hb⟩
 clear hL CS CP
 replace B := B.trans (hb.mono B.size)
 replace L := L.below hb
 replace OX := OX.below hb
 replace X := X.below hb
 clear hb
 go_upto_region 10 with fail
 have SK : Hid (∀ w', Below v9.heap.size v9 w' → (fun w' => (loadCells ⟨kX, 0, none⟩ 18).run Tryz.prog w' = .ok RX w' ∧ (loadCells ⟨w.heap.size, 0, none⟩ 18).run Tryz.prog w' = .ok A w') w') := fun w' hw => ⟨(X.below hw).load hRX, (L.below hw).load hA⟩
 refine wp_region_held_drew (S := (fun w' => (loadCells ⟨kX, 0, none⟩ 18).run Tryz.prog w' = .ok RX w' ∧ (loadCells ⟨w.heap.size, 0, none⟩ 18).run Tryz.prog w' = .ok A w')) (by kernel_rfl) ?_ (fun hHeld => ?_)
 ·first | exact SK.out _ XB | exact SK.out _ (Below.drew (Below.refl _ _))
 have XB : Below v9.heap.size v9 v9.drew := Below.drew (Below.refl _ _)
 generalize v9.drew = vx at *
 refine zTk 0 ?_
 refine zTk 1 ?_
 refine wpAnyH_ready (rs := [2]) (by kernel_rfl) (by simp) ?_
 refine AllReadyH.cons (by rw [List.getElem?_toArray]; rfl) (fun K hK => ?_) AllReadyH.nil
 go_simp
 refine (CT vx (B.trans (XB.mono B.size))).mono ?_; rintro ee vy ⟨RY, rfl, OY, hbl⟩; (replace XB := XB.trans (hbl.mono XB.size)); (clear hbl); (generalize hvv : vy = vx at *); (clear hvv)
 (try go_wp2_with fail)
 refine hK.out _ _ ?_ (fun hHeld => ?_)
 ·first | exact SK.out _ XB | exact SK.out _ (Below.drew (Below.refl _ _))
 clear hK K
 (try simp only [Act.put, zSb, zS0, zS1])
 refine wpAnyH_ready (rs := [3]) (by kernel_rfl) (by simp) ?_
 refine AllReadyH.cons (by rw [List.getElem?_toArray]; rfl) (fun K hK => ?_) AllReadyH.nil
 go_simp
 refine (eqWorldW RX RY x vx (OX.below XB).weak OY.weak).mono ?_; rintro ee vx ⟨rfl, hbl⟩; (replace XB := XB.trans (hbl.mono XB.size)); (clear hbl OY)
 (try go_wp2_with fail)
 refine hK.out _ _ ?_ (fun hHeld => ?_)
 ·first | exact SK.out _ XB | exact SK.out _ (Below.drew (Below.refl _ _))
 clear hK K
 (try simp only [Act.put, zSb, zS0, zS1])
 refine zTk 4 ?_
 refine wpAnyH_done (by kernel_rfl) ?_ _
 have hb := XB
 clear XB SK
 replace B := B.trans (hb.mono B.size)
 replace L := L.below hb
 replace OX := OX.below hb
 replace X := X.below hb
 clear hb
 go_wp2_with fail
 go_ret
 exact ⟨rfl, B⟩
end Go.Proofs.YtddijpjgkifngaaGreat
