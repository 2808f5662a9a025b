/- A new world copied. -/
import Derived.Test.YtddijpjgkifngaaGreatMN0
import Derived.Test.YtddijpjgkifngaaGreatMN39
namespace Go.Proofs.YtddijpjgkifngaaGreat
open Go.RowKit
set_option linter.unusedVariables false
set_option maxRecDepth 100000
set_option maxHeartbeats 16000000
theorem nz_cs {w : World} {g no n : Nat} (hg : g < w.heap.size) (h : ∀ j, j < n * 16 → w.cell? ⟨g, no + j, none⟩ = some (nzF j)) : CsN w g no n (fun i => nzA (i : Int)) :=
 ⟨hg, fun i hi j u hu => by
  obtain ⟨hj, rfl⟩ := jJ hu
  rw [← aI i j hj, Nat.add_assoc]
  exact h (i * 16 + j) (by omega)⟩
theorem jL {P : Program} {w : World} {g no n r : Nat} {cur : Array Value} (hB : Bo w g cur) (hsz : no + n * 16 ≤ cur.size) (hr : r < n) (h : CsN w g no n (fun i => nzA (i : Int))) : (storeCells ⟨g, no + r * 16, none⟩ (nzA (r : Int)).toList 0).run P w = .ok () w := by
 have hl : (nzA (r : Int)).toList.length = 16 := rfl
 have q := Bo.store (P := P) (k := g) (b := no + r * 16) (nzA (r : Int)).toList (no + r * 16) 0 hB rfl (by rw [hl]; omega) (bX _ _ _ _ _ _ _)
 rw [eC] at q
 ·exact q
 ·intro j u hu
  rw [Array.getElem?_toList] at hu
  exact h.2 r hr j u hu
attribute [-go_sem] loadCells storeCells in
theorem jZ (y : CfX) (p la ca na : Option Addr) (d lc cc nk n : Nat) (LB : Nat → Bool) (w : World) (hm : y.m ≤ 1048576) (hn : n ≤ 8) (hn0 : n ≠ 0) (h1 : RwO w p y.m d 2 (ak y.PM)) (h2 : RwO w la n lc 1 (boG LB)) (h3 : RwO w ca n cc 1 (itG fun _ => 0)) (h4 : RwO w na n nk 16 nzF) :
 Calls Tryz.prog 62 #[.agg #[.int .i64 y.dn, .int .i64 y.dd, .int .i64 y.li, .int .i64 y.le, .int .i64 y.pt, .int .i64 y.ag, .int .i64 y.ke, .int .i64 y.lg, .int .i64 y.s, .int .i64 y.g, .slice p y.m d, .slice la n lc, .int .i64 0, .slice ca n cc, .slice na n nk, .int .i64 0, .slice none 0 0, .slice none 0 0]] w fun e w' => ∃ A, e = .returned (.agg A) ∧ NwO w' w.heap.size w'.heap.size A y n LB ∧ Below w.heap.size w w' := by
 have CS := fun (v : World) (h : Below w.heap.size w v) => gM p y.m d y.PM v hm (h1.below h)
 have CB := fun (v : World) (h : Below w.heap.size w v) => gL la n lc LB v (by omega) (h2.below h)
 have CI := fun (v : World) (h : Below w.heap.size w v) => iU ca n cc (fun _ => 0) v (by omega) (h3.below h)
 have CN := fun (v : World) (h : Below w.heap.size w v) => i1 na n nk v (by omega) (h4.below h)
 clear h1 h2 h3 h4
 have A0 := Below.nw w (.cells #[.int .i64 y.dn, .int .i64 y.dd, .int .i64 y.li, .int .i64 y.le, .int .i64 y.pt, .int .i64 y.ag, .int .i64 y.ke, .int .i64 y.lg, .int .i64 y.s, .int .i64 y.g, .slice p y.m d, .slice la n lc, .int .i64 0, .slice ca n cc, .slice na n nk, .int .i64 0, .slice none 0 0, .slice none 0 0] 52)
 have A1 := Below.nw (w.alloc (.cells #[.int .i64 y.dn, .int .i64 y.dd, .int .i64 y.li, .int .i64 y.le, .int .i64 y.pt, .int .i64 y.ag, .int .i64 y.ke, .int .i64 y.lg, .int .i64 y.s, .int .i64 y.g, .slice p y.m d, .slice la n lc, .int .i64 0, .slice ca n cc, .slice na n nk, .int .i64 0, .slice none 0 0, .slice none 0 0] 52)) (.cells #[.int .i64 0, .int .i64 0, .int .i64 0, .int .i64 0, .int .i64 0, .int .i64 0, .int .i64 0, .int .i64 0, .int .i64 0, .int .i64 0, .slice none 0 0, .slice none 0 0, .int .i64 0, .slice none 0 0, .slice none 0 0, .int .i64 0, .slice none 0 0, .slice none 0 0] 52)
 have W := (Bo.new w #[.int .i64 y.dn, .int .i64 y.dd, .int .i64 y.li, .int .i64 y.le, .int .i64 y.pt, .int .i64 y.ag, .int .i64 y.ke, .int .i64 y.lg, .int .i64 y.s, .int .i64 y.g, .slice p y.m d, .slice la n lc, .int .i64 0, .slice ca n cc, .slice na n nk, .int .i64 0, .slice none 0 0, .slice none 0 0] 52).below A1
 have R := Bo.new (w.alloc (.cells #[.int .i64 y.dn, .int .i64 y.dd, .int .i64 y.li, .int .i64 y.le, .int .i64 y.pt, .int .i64 y.ag, .int .i64 y.ke, .int .i64 y.lg, .int .i64 y.s, .int .i64 y.g, .slice p y.m d, .slice la n lc, .int .i64 0, .slice ca n cc, .slice na n nk, .int .i64 0, .slice none 0 0, .slice none 0 0] 52)) #[.int .i64 0, .int .i64 0, .int .i64 0, .int .i64 0, .int .i64 0, .int .i64 0, .int .i64 0, .int .i64 0, .int .i64 0, .int .i64 0, .slice none 0 0, .slice none 0 0, .int .i64 0, .slice none 0 0, .slice none 0 0, .int .i64 0, .slice none 0 0, .slice none 0 0] 52
 have B := A0
 replace B := B.trans (A1.mono B.size)
 simp only [World.size_alloc] at R
 clear A0 A1
 go_enter Tryz.func62, Tryz.ntmps62
 go_upto_region 1 with fail
 generalize ((w.alloc (.cells #[.int .i64 y.dn, .int .i64 y.dd, .int .i64 y.li, .int .i64 y.le, .int .i64 y.pt, .int .i64 y.ag, .int .i64 y.ke, .int .i64 y.lg, .int .i64 y.s, .int .i64 y.g, .slice p y.m d, .slice la n lc, .int .i64 0, .slice ca n cc, .slice na n nk, .int .i64 0, .slice none 0 0, .slice none 0 0] 52))).alloc (.cells #[.int .i64 0, .int .i64 0, .int .i64 0, .int .i64 0, .int .i64 0, .int .i64 0, .int .i64 0, .int .i64 0, .int .i64 0, .int .i64 0, .slice none 0 0, .slice none 0 0, .int .i64 0, .slice none 0 0, .slice none 0 0, .int .i64 0, .slice none 0 0, .slice none 0 0] 52) = v0 at *
 have hL0 : v0.cell? ⟨w.heap.size, 10, none⟩ = some (.slice p y.m d) := W.cell rfl
 go_wp2_with fail
 refine (CS v0 B).mono ?_
 rintro e v1 ⟨a1, c1, rfl, P1, hb⟩
 clear hL0
 have q1W : w.heap.size < v0.heap.size := W.1
 have q1R : w.heap.size + 1 < v0.heap.size := R.1
 have q1 : w.heap.size ≤ v0.heap.size := B.size
 have zv1 : v0.heap.size ≤ v1.heap.size := hb.size
 replace B := B.trans (hb.mono B.size)
 replace W := W.below hb
 replace R := R.below hb
 clear hb
 have hst := Bo.store (P := Tryz.prog) (b := 10) [.slice a1 y.m c1] 10 0 W rfl (show 10 + 1 ≤ 18 by decide) (List.forall_mem_cons.2 ⟨rfl, fun _ h => nomatch h⟩)
 have hb : Btw (w.heap.size) (w.heap.size + 1) v1 (ah v1 (w.heap.size) 10 [.slice a1 y.m c1]) := af [.slice a1 y.m c1] v1 10 (w.heap.size)
 have B1 := ai (k := w.heap.size) [.slice a1 y.m c1] w v1 10 B (by omega)
 have N1 : Bo (ah v1 (w.heap.size) 10 [.slice a1 y.m c1]) (w.heap.size) (#[.int .i64 y.dn, .int .i64 y.dd, .int .i64 y.li, .int .i64 y.le, .int .i64 y.pt, .int .i64 y.ag, .int .i64 y.ke, .int .i64 y.lg, .int .i64 y.s, .int .i64 y.g, .slice a1 y.m c1, .slice la n lc, .int .i64 0, .slice ca n cc, .slice na n nk, .int .i64 0, .slice none 0 0, .slice none 0 0]) := Bo.put [.slice a1 y.m c1] 10 W
 go_upto_region 2 with (rw [hst])
 clear hst  W B
 replace R := R.btw hb (by omega)
 replace P1 := P1.btw hb (by omega)
 have zv2 := hb.2.2.2.1
 clear hb
 generalize ah v1 (w.heap.size) 10 [.slice a1 y.m c1] = v2 at *
 have B := B1
 have W := N1
 clear B1 N1
 have hL0 : v2.cell? ⟨w.heap.size, 11, none⟩ = some (.slice la n lc) := W.cell rfl
 go_wp2_with fail
 refine (CB v2 B).mono ?_
 rintro e v3 ⟨a2, c2, rfl, P2, hb⟩
 clear hL0
 have q2W : w.heap.size < v2.heap.size := W.1
 have q2R : w.heap.size + 1 < v2.heap.size := R.1
 have q2 : w.heap.size ≤ v2.heap.size := B.size
 have zv3 : v2.heap.size ≤ v3.heap.size := hb.size
 replace B := B.trans (hb.mono B.size)
 replace W := W.below hb
 replace R := R.below hb
 replace P1 := P1.below hb
 clear hb
 have hst := Bo.store (P := Tryz.prog) (b := 11) [.slice a2 n c2] 11 0 W rfl (show 11 + 1 ≤ 18 by decide) (List.forall_mem_cons.2 ⟨rfl, fun _ h => nomatch h⟩)
 have hb : Btw (w.heap.size) (w.heap.size + 1) v3 (ah v3 (w.heap.size) 11 [.slice a2 n c2]) := af [.slice a2 n c2] v3 11 (w.heap.size)
 have B1 := ai (k := w.heap.size) [.slice a2 n c2] w v3 11 B (by omega)
 have N1 : Bo (ah v3 (w.heap.size) 11 [.slice a2 n c2]) (w.heap.size) (#[.int .i64 y.dn, .int .i64 y.dd, .int .i64 y.li, .int .i64 y.le, .int .i64 y.pt, .int .i64 y.ag, .int .i64 y.ke, .int .i64 y.lg, .int .i64 y.s, .int .i64 y.g, .slice a1 y.m c1, .slice a2 n c2, .int .i64 0, .slice ca n cc, .slice na n nk, .int .i64 0, .slice none 0 0, .slice none 0 0]) := Bo.put [.slice a2 n c2] 11 W
 go_upto_region 3 with (rw [hst])
 clear hst  W B
 replace R := R.btw hb (by omega)
 replace P1 := P1.btw hb (by omega)
 replace P2 := P2.btw hb (by omega)
 have zv4 := hb.2.2.2.1
 clear hb
 generalize ah v3 (w.heap.size) 11 [.slice a2 n c2] = v4 at *
 have B := B1
 have W := N1
 clear B1 N1
 have hL0 : v4.cell? ⟨w.heap.size, 13, none⟩ = some (.slice ca n cc) := W.cell rfl
 go_wp2_with fail
 refine (CI v4 B).mono ?_
 rintro e v5 ⟨a3, c3, rfl, P3, hb⟩
 clear hL0
 have q3W : w.heap.size < v4.heap.size := W.1
 have q3R : w.heap.size + 1 < v4.heap.size := R.1
 have q3 : w.heap.size ≤ v4.heap.size := B.size
 have zv5 : v4.heap.size ≤ v5.heap.size := hb.size
 replace B := B.trans (hb.mono B.size)
 replace W := W.below hb
 replace R := R.below hb
 replace P1 := P1.below hb
 replace P2 := P2.below hb
 clear hb
 have hst := Bo.store (P := Tryz.prog) (b := 13) [.slice a3 n c3] 13 0 W rfl (show 13 + 1 ≤ 18 by decide) (List.forall_mem_cons.2 ⟨rfl, fun _ h => nomatch h⟩)
 have hb : Btw (w.heap.size) (w.heap.size + 1) v5 (ah v5 (w.heap.size) 13 [.slice a3 n c3]) := af [.slice a3 n c3] v5 13 (w.heap.size)
 have B1 := ai (k := w.heap.size) [.slice a3 n c3] w v5 13 B (by omega)
 have N1 : Bo (ah v5 (w.heap.size) 13 [.slice a3 n c3]) (w.heap.size) (#[.int .i64 y.dn, .int .i64 y.dd, .int .i64 y.li, .int .i64 y.le, .int .i64 y.pt, .int .i64 y.ag, .int .i64 y.ke, .int .i64 y.lg, .int .i64 y.s, .int .i64 y.g, .slice a1 y.m c1, .slice a2 n c2, .int .i64 0, .slice a3 n c3, .slice na n nk, .int .i64 0, .slice none 0 0, .slice none 0 0]) := Bo.put [.slice a3 n c3] 13 W
 go_upto_region 4 with (rw [hst])
 clear hst  W B
 replace R := R.btw hb (by omega)
 replace P1 := P1.btw hb (by omega)
 replace P2 := P2.btw hb (by omega)
 replace P3 := P3.btw hb (by omega)
 have zv6 := hb.2.2.2.1
 clear hb
 generalize ah v5 (w.heap.size) 13 [.slice a3 n c3] = v6 at *
 have B := B1
 have W := N1
 clear B1 N1
 have hL0 : v6.cell? ⟨w.heap.size, 14, none⟩ = some (.slice na n nk) := W.cell rfl
 go_wp2_with fail
 refine (CN v6 B).mono ?_
 rintro e v7 ⟨a4, c4, rfl, P4, hb⟩
 clear hL0
 have q4W : w.heap.size < v6.heap.size := W.1
 have q4R : w.heap.size + 1 < v6.heap.size := R.1
 have q4 : w.heap.size ≤ v6.heap.size := B.size
 have zv7 : v6.heap.size ≤ v7.heap.size := hb.size
 replace B := B.trans (hb.mono B.size)
 replace W := W.below hb
 replace R := R.below hb
 replace P1 := P1.below hb
 replace P2 := P2.below hb
 replace P3 := P3.below hb
 clear hb
 have hst := Bo.store (P := Tryz.prog) (b := 14) [.slice a4 n c4] 14 0 W rfl (show 14 + 1 ≤ 18 by decide) (List.forall_mem_cons.2 ⟨rfl, fun _ h => nomatch h⟩)
 have hb : Btw (w.heap.size) (w.heap.size + 1) v7 (ah v7 (w.heap.size) 14 [.slice a4 n c4]) := af [.slice a4 n c4] v7 14 (w.heap.size)
 have B1 := ai (k := w.heap.size) [.slice a4 n c4] w v7 14 B (by omega)
 have N1 : Bo (ah v7 (w.heap.size) 14 [.slice a4 n c4]) (w.heap.size) (#[.int .i64 y.dn, .int .i64 y.dd, .int .i64 y.li, .int .i64 y.le, .int .i64 y.pt, .int .i64 y.ag, .int .i64 y.ke, .int .i64 y.lg, .int .i64 y.s, .int .i64 y.g, .slice a1 y.m c1, .slice a2 n c2, .int .i64 0, .slice a3 n c3, .slice a4 n c4, .int .i64 0, .slice none 0 0, .slice none 0 0]) := Bo.put [.slice a4 n c4] 14 W
 go_upto_region 5 with (rw [hst])
 clear hst  W B
 replace R := R.btw hb (by omega)
 replace P1 := P1.btw hb (by omega)
 replace P2 := P2.btw hb (by omega)
 replace P3 := P3.btw hb (by omega)
 replace P4 := P4.btw hb (by omega)
 have zv8 := hb.2.2.2.1
 clear hb
 generalize ah v7 (w.heap.size) 14 [.slice a4 n c4] = v8 at *
 have B := B1
 have W := N1
 clear B1 N1
 clear CS CB CI CN
 obtain ⟨l1, hl1⟩ : ∃ z, z = v1.heap.size := ⟨_, rfl⟩
 obtain ⟨l2, hl2⟩ : ∃ z, z = v3.heap.size := ⟨_, rfl⟩
 obtain ⟨l3, hl3⟩ : ∃ z, z = v5.heap.size := ⟨_, rfl⟩
 have hu1 : w.heap.size + 2 ≤ v0.heap.size := by omega
 have Q1 : Rwo v8 (w.heap.size + 2) l1 173 2 a1 y.m c1 (ak y.PM) := P1.wide (by omega) (by omega)
 have Q2 : Rwo v8 l1 l2 4 1 a2 n c2 (boG LB) := P2.wide (by omega) (by omega)
 have Q3 : Rwo v8 l2 l3 3 1 a3 n c3 (itG fun _ => 0) := P3.wide (by omega) (by omega)
 have Q4 : Rwo v8 l3 v8.heap.size 98 16 a4 n c4 nzF := P4.wide (by omega) (by omega)
 have hll : w.heap.size + 2 ≤ l1 ∧ l1 ≤ l2 ∧ l2 ≤ l3 ∧ l3 ≤ v8.heap.size := by omega
 obtain ⟨g, cur, ha4, G, hcu, hg3, hgu, hce⟩ := Q4.box hn0
 obtain ⟨no, hno⟩ : ∃ z : Nat, z = 0 := ⟨0, rfl⟩
 have HNO : Hid (no = 0) := hno
 have hgno : (some ⟨g, no, none⟩ : Option Addr) = a4 := by rw [ha4, hno]
 rw [← hgno] at W
 have CC : CsN v8 g no n (fun i => nzA (i : Int)) := nz_cs G.1 fun j hj => by rw [hno, Nat.zero_add]; exact hce j hj
 have hcu2 : no + n * 16 ≤ cur.size := by omega
 have HG : Hid ((some ⟨g, no, none⟩ : Option Addr) = a4) := hgno
 have HQ4 : Hid (Rwo v8 l3 v8.heap.size 98 16 (some ⟨g, no, none⟩) n c4 nzF) := by rw [hgno]; exact Q4
 rw [← hgno]
 clear hno hce ha4 P1 P2 P3 P4 hcu Q4 hgno
 have hL0 : v8.cell? ⟨w.heap.size, 14, none⟩ = some (.slice (some ⟨g, no, none⟩) n c4) := W.cell rfl
 go_wp2_with fail
 go_loopw [28] (fun i wr => ∃ r : Nat, r ≤ n ∧ i = .int .i64 (r : Int) ∧ Below v8.heap.size v8 wr) (fun i _ => n - (intOf i).toNat)
 case atStart => exact ⟨0, Nat.zero_le _, rfl, Below.refl _ _⟩
 case round =>
  clear hL0
  obtain ⟨r, hr, rfl, HB⟩ := hrel
  by_cases hlt : r < n
  ·have hli : (r : Int) < (n : Int) := by omega
   have hLd : (loadCells ⟨g, no + r * 16, none⟩ 16).run Tryz.prog wr = .ok (nzA (r : Int)) wr := (CC.below HB).load hlt rfl
   have hst := aY (P := Tryz.prog) wr (#[.int .i64 0, .int .i64 0, .int .i64 0, .int .i64 0, .bool false, .int .i64 0, .int .i64 0, .int .i64 0, .int .i64 0, .int .i64 0, .slice none 0 0, .slice none 0 0, .bool false, .int .i64 0, .slice none 0 0, .int .i64 0]) (nzA (r : Int)) 98 (by rfl) (bX _ _ _ _ _ _ _)
   go_upto_region 8 with (first | rw [hLd] | rw [hst])
   clear hst hLd
   have N := Bo.new wr (nzA (r : Int)) 98
   have hb := Below.nw wr (.cells (nzA (r : Int)) 98)
   have HBn := HB.trans (hb.mono HB.size)
   clear hb
   generalize wr.alloc (.cells (nzA (r : Int)) 98) = vn at *
   generalize wr.heap.size = kn at *
   have SK : Hid (∀ w', Below vn.heap.size vn w' → w'.cell? ⟨w.heap.size, 14, none⟩ = some (.slice (some ⟨g, no, none⟩) n c4) ∧ (loadCells ⟨kn, 0, none⟩ 16).run Tryz.prog w' = .ok (nzA (r : Int)) w') := fun w' hw => ⟨(W.below (HBn.trans (hw.mono HBn.size))).cell rfl, (N.below hw).load (P := Tryz.prog) rfl⟩
   have HST : Hid (∀ w', Below vn.heap.size vn w' → (storeCells ⟨g, no + r * 16, none⟩ (nzA (r : Int)).toList 0).run Tryz.prog w' = .ok () w') := fun w' hw => jL (G.below (HBn.trans (hw.mono HBn.size))) hcu2 hlt (CC.below (HBn.trans (hw.mono HBn.size)))
   clear N HB
   refine wp_region_held_drew (S := (fun w' => w'.cell? ⟨w.heap.size, 14, none⟩ = some (.slice (some ⟨g, no, none⟩) n c4) ∧ (loadCells ⟨kn, 0, none⟩ 16).run Tryz.prog w' = .ok (nzA (r : Int)) w')) (by kernel_rfl) ?_ (fun hHeld => ?_)
   ·first | exact SK.out _ XB | exact SK.out _ zD
   have XB : Below vn.heap.size vn vn.drew := Below.drew (Below.refl _ _)
   generalize vn.drew = vx at *
   refine zT4 0 ?_
   refine zQ 4 fun K hK => ?_
   go_simp
   refine (i2 (r : Int) vx).mono ?_; rintro ee vs ⟨rfl, hbl⟩; (replace XB := XB.trans (hbl.mono XB.size)); (clear hbl); (generalize vs = vx at *); (have hst := HST.out vx XB)
   (try go_wp2_with fail)
   refine hK.out _ _ ?_ (fun hHeld => ?_)
   ·first | exact SK.out _ XB | exact SK.out _ zD
   clear hK K
   (try simp only [zA])
   refine zTk 5 ?_
   refine zQ 6 fun K hK => ?_
   go_simp
   refine hK.out _ _ ?_ (fun hHeld => ?_)
   ·first | exact SK.out _ XB | exact SK.out _ zD
   clear hK K
   (try simp only [zA])
   refine wpAnyH_done (by kernel_rfl) ?_ _
   have HB2 := HBn.trans (XB.mono HBn.size)
   clear SK HST HBn
   go_wp2_with fail
   go_roundw
   case rel => exact ⟨r + 1, by omega, by go_num, HB2⟩
   case measure => simp [intOf]; omega
  ·obtain rfl : n = r := by omega
   have hli : ¬ (n : Int) < (n : Int) := by omega
   clear hlt hr CC G
   have hsz := HB.size
   replace W := W.below HB
   replace R := R.below HB
   replace B := B.trans (HB.mono B.size)
   replace Q1 := Q1.below HB
   replace Q2 := Q2.below HB
   replace Q3 := Q3.below HB
   have Q4 := HQ4.out.below HB
   clear HB HQ4
   have hL0 : wr.cell? ⟨w.heap.size, 16, none⟩ = some (.slice none 0 0) := W.cell rfl
   go_wp2_with fail
   refine (iY wr).mono ?_
   rintro e wn ⟨rfl, rfl⟩
   clear hL0
   have hst := Bo.store (P := Tryz.prog) (b := 16) [.slice none 0 0] 16 0 W rfl (show 16 + 1 ≤ 18 by decide) (List.forall_mem_cons.2 ⟨rfl, fun _ h => nomatch h⟩)
   have hb : Btw (w.heap.size) (w.heap.size + 1) wr (ah wr (w.heap.size) 16 [.slice none 0 0]) := af [.slice none 0 0] wr 16 (w.heap.size)
   have B1 := ai (k := w.heap.size) [.slice none 0 0] w wr 16 B (by omega)
   have N1 : Bo (ah wr (w.heap.size) 16 [.slice none 0 0]) (w.heap.size) (#[.int .i64 y.dn, .int .i64 y.dd, .int .i64 y.li, .int .i64 y.le, .int .i64 y.pt, .int .i64 y.ag, .int .i64 y.ke, .int .i64 y.lg, .int .i64 y.s, .int .i64 y.g, .slice a1 y.m c1, .slice a2 n c2, .int .i64 0, .slice a3 n c3, .slice (some ⟨g, no, none⟩) n c4, .int .i64 0, .slice none 0 0, .slice none 0 0]) := Bo.put [.slice none 0 0] 16 W
   go_upto_region 11 with (rw [hst])
   clear hst  W B
   replace R := R.btw hb (by omega)
   replace Q1 := Q1.btw hb (.inr (by omega))
   replace Q2 := Q2.btw hb (.inr (by omega))
   replace Q3 := Q3.btw hb (.inr (by omega))
   replace Q4 := Q4.btw hb (.inr (by omega))
   have zt16 := hb.2.2.2.1
   clear hb
   generalize ah wr (w.heap.size) 16 [.slice none 0 0] = v91 at *
   have B := B1
   have W := N1
   clear B1 N1
   have hL0 : v91.cell? ⟨w.heap.size, 17, none⟩ = some (.slice none 0 0) := W.cell rfl
   go_wp2_with fail
   refine (iZ v91).mono ?_
   rintro e wn ⟨rfl, rfl⟩
   clear hL0
   have hst := Bo.store (P := Tryz.prog) (b := 17) [.slice none 0 0] 17 0 W rfl (show 17 + 1 ≤ 18 by decide) (List.forall_mem_cons.2 ⟨rfl, fun _ h => nomatch h⟩)
   have hb : Btw (w.heap.size) (w.heap.size + 1) v91 (ah v91 (w.heap.size) 17 [.slice none 0 0]) := af [.slice none 0 0] v91 17 (w.heap.size)
   have B1 := ai (k := w.heap.size) [.slice none 0 0] w v91 17 B (by omega)
   have N1 : Bo (ah v91 (w.heap.size) 17 [.slice none 0 0]) (w.heap.size) (#[.int .i64 y.dn, .int .i64 y.dd, .int .i64 y.li, .int .i64 y.le, .int .i64 y.pt, .int .i64 y.ag, .int .i64 y.ke, .int .i64 y.lg, .int .i64 y.s, .int .i64 y.g, .slice a1 y.m c1, .slice a2 n c2, .int .i64 0, .slice a3 n c3, .slice (some ⟨g, no, none⟩) n c4, .int .i64 0, .slice none 0 0, .slice none 0 0]) := Bo.put [.slice none 0 0] 17 W
   go_upto_region 12 with (rw [hst])
   clear hst  W B
   replace R := R.btw hb (by omega)
   replace Q1 := Q1.btw hb (.inr (by omega))
   replace Q2 := Q2.btw hb (.inr (by omega))
   replace Q3 := Q3.btw hb (.inr (by omega))
   replace Q4 := Q4.btw hb (.inr (by omega))
   have zt17 := hb.2.2.2.1
   clear hb
   generalize ah v91 (w.heap.size) 17 [.slice none 0 0] = v92 at *
   have B := B1
   have W := N1
   clear B1 N1
   have hL := W.load (P := Tryz.prog) (show (#[.int .i64 y.dn, .int .i64 y.dd, .int .i64 y.li, .int .i64 y.le, .int .i64 y.pt, .int .i64 y.ag, .int .i64 y.ke, .int .i64 y.lg, .int .i64 y.s, .int .i64 y.g, .slice a1 y.m c1, .slice a2 n c2, .int .i64 0, .slice a3 n c3, .slice (some ⟨g, no, none⟩) n c4, .int .i64 0, .slice none 0 0, .slice none 0 0] : Array Value).size = 18 from rfl)
   have hst := Bo.store (P := Tryz.prog) (b := 0) [.int .i64 y.dn, .int .i64 y.dd, .int .i64 y.li, .int .i64 y.le, .int .i64 y.pt, .int .i64 y.ag, .int .i64 y.ke, .int .i64 y.lg, .int .i64 y.s, .int .i64 y.g, .slice a1 y.m c1, .slice a2 n c2, .int .i64 0, .slice a3 n c3, .slice (some ⟨g, no, none⟩) n c4, .int .i64 0, .slice none 0 0, .slice none 0 0] 0 0 R rfl (show 0 + 18 ≤ 18 by decide) (List.forall_mem_cons.2 ⟨rfl, (List.forall_mem_cons.2 ⟨rfl, (List.forall_mem_cons.2 ⟨rfl, (List.forall_mem_cons.2 ⟨rfl, (List.forall_mem_cons.2 ⟨rfl, (List.forall_mem_cons.2 ⟨rfl, (List.forall_mem_cons.2 ⟨rfl, (List.forall_mem_cons.2 ⟨rfl, (List.forall_mem_cons.2 ⟨rfl, (List.forall_mem_cons.2 ⟨rfl, (List.forall_mem_cons.2 ⟨rfl, (List.forall_mem_cons.2 ⟨rfl, (List.forall_mem_cons.2 ⟨rfl, (List.forall_mem_cons.2 ⟨rfl, (List.forall_mem_cons.2 ⟨rfl, (List.forall_mem_cons.2 ⟨rfl, (List.forall_mem_cons.2 ⟨rfl, (List.forall_mem_cons.2 ⟨rfl, fun _ h => nomatch h⟩)⟩)⟩)⟩)⟩)⟩)⟩)⟩)⟩)⟩)⟩)⟩)⟩)⟩)⟩)⟩)⟩)⟩)
   have R2 : Bo (ah v92 (w.heap.size + 1) 0 [.int .i64 y.dn, .int .i64 y.dd, .int .i64 y.li, .int .i64 y.le, .int .i64 y.pt, .int .i64 y.ag, .int .i64 y.ke, .int .i64 y.lg, .int .i64 y.s, .int .i64 y.g, .slice a1 y.m c1, .slice a2 n c2, .int .i64 0, .slice a3 n c3, .slice (some ⟨g, no, none⟩) n c4, .int .i64 0, .slice none 0 0, .slice none 0 0]) (w.heap.size + 1) #[.int .i64 y.dn, .int .i64 y.dd, .int .i64 y.li, .int .i64 y.le, .int .i64 y.pt, .int .i64 y.ag, .int .i64 y.ke, .int .i64 y.lg, .int .i64 y.s, .int .i64 y.g, .slice a1 y.m c1, .slice a2 n c2, .int .i64 0, .slice a3 n c3, .slice (some ⟨g, no, none⟩) n c4, .int .i64 0, .slice none 0 0, .slice none 0 0] := R.putW (U := #[.int .i64 y.dn, .int .i64 y.dd, .int .i64 y.li, .int .i64 y.le, .int .i64 y.pt, .int .i64 y.ag, .int .i64 y.ke, .int .i64 y.lg, .int .i64 y.s, .int .i64 y.g, .slice a1 y.m c1, .slice a2 n c2, .int .i64 0, .slice a3 n c3, .slice (some ⟨g, no, none⟩) n c4, .int .i64 0, .slice none 0 0, .slice none 0 0]) rfl
   have B2 := ai (k := w.heap.size + 1) [.int .i64 y.dn, .int .i64 y.dd, .int .i64 y.li, .int .i64 y.le, .int .i64 y.pt, .int .i64 y.ag, .int .i64 y.ke, .int .i64 y.lg, .int .i64 y.s, .int .i64 y.g, .slice a1 y.m c1, .slice a2 n c2, .int .i64 0, .slice a3 n c3, .slice (some ⟨g, no, none⟩) n c4, .int .i64 0, .slice none 0 0, .slice none 0 0] w v92 0 B (by omega)
   have hb := af [.int .i64 y.dn, .int .i64 y.dd, .int .i64 y.li, .int .i64 y.le, .int .i64 y.pt, .int .i64 y.ag, .int .i64 y.ke, .int .i64 y.lg, .int .i64 y.s, .int .i64 y.g, .slice a1 y.m c1, .slice a2 n c2, .int .i64 0, .slice a3 n c3, .slice (some ⟨g, no, none⟩) n c4, .int .i64 0, .slice none 0 0, .slice none 0 0] v92 0 (w.heap.size + 1)
   replace Q1 := Q1.btw hb (.inr (by omega))
   replace Q2 := Q2.btw hb (.inr (by omega))
   replace Q3 := Q3.btw hb (.inr (by omega))
   replace Q4 := Q4.btw hb (.inr (by omega))
   have hvs : v92.heap.size ≤ (ah v92 (w.heap.size + 1) 0 [.int .i64 y.dn, .int .i64 y.dd, .int .i64 y.li, .int .i64 y.le, .int .i64 y.pt, .int .i64 y.ag, .int .i64 y.ke, .int .i64 y.lg, .int .i64 y.s, .int .i64 y.g, .slice a1 y.m c1, .slice a2 n c2, .int .i64 0, .slice a3 n c3, .slice (some ⟨g, no, none⟩) n c4, .int .i64 0, .slice none 0 0, .slice none 0 0]).heap.size := hb.2.2.2.1
   go_wp2_with (first | rw [hL] | rw [hst])
   clear hst hL R B hb
   generalize ah v92 (w.heap.size + 1) 0 [.int .i64 y.dn, .int .i64 y.dd, .int .i64 y.li, .int .i64 y.le, .int .i64 y.pt, .int .i64 y.ag, .int .i64 y.ke, .int .i64 y.lg, .int .i64 y.s, .int .i64 y.g, .slice a1 y.m c1, .slice a2 n c2, .int .i64 0, .slice a3 n c3, .slice (some ⟨g, no, none⟩) n c4, .int .i64 0, .slice none 0 0, .slice none 0 0] = vz at *
   have hL0 := R2.load (P := Tryz.prog) (show (#[.int .i64 y.dn, .int .i64 y.dd, .int .i64 y.li, .int .i64 y.le, .int .i64 y.pt, .int .i64 y.ag, .int .i64 y.ke, .int .i64 y.lg, .int .i64 y.s, .int .i64 y.g, .slice a1 y.m c1, .slice a2 n c2, .int .i64 0, .slice a3 n c3, .slice (some ⟨g, no, none⟩) n c4, .int .i64 0, .slice none 0 0, .slice none 0 0] : Array Value).size = 18 from rfl)
   exact bodyPost_ret (v := .agg #[.int .i64 y.dn, .int .i64 y.dd, .int .i64 y.li, .int .i64 y.le, .int .i64 y.pt, .int .i64 y.ag, .int .i64 y.ke, .int .i64 y.lg, .int .i64 y.s, .int .i64 y.g, .slice a1 y.m c1, .slice a2 n c2, .int .i64 0, .slice a3 n c3, .slice (some ⟨g, no, none⟩) n c4, .int .i64 0, .slice none 0 0, .slice none 0 0]) (by simp [results, Tryz.results62, go_sem]; rw [hL0]; rfl) rfl ⟨_, rfl, ⟨a1, c1, a2, c2, a3, c3, _, c4, l1, l2, l3, rfl, hm, by omega, ⟨by omega, by omega, by omega, by omega, Nat.le_refl _⟩, Q1.wide (by omega) (Nat.le_refl _), Q2, Q3, Q4.wide (Nat.le_refl _) (by omega)⟩, B2⟩
end Go.Proofs.YtddijpjgkifngaaGreat
