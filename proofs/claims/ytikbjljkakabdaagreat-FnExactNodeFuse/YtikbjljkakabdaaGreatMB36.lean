/- Rows of numbers of one own; the contract of spec.l9Turns. -/
import Derived.Test.YtikbjljkakabdaaGreatMB35
namespace Go.Proofs.YtikbjljkakabdaaGreat
open Go.RowKit
set_option linter.unusedVariables false
set_option maxRecDepth 100000
set_option maxHeartbeats 16000000
def itL (L : List Int) : List Value := L.map (Value.int .i64)
def iat (L : List Int) (i : Nat) : Int := L.getD i 0
theorem cH (L : List Int) : (itL L).length = L.length := by simp [itL]
theorem ra : (Tryz.prog.info? 3).map (fun i => (i.zero, i.size, i.bytes)) = some (some (.int .i64 0), 1, 8) := by kernel_rfl
theorem nF (b off n : Nat) : (⟨b, off, none⟩ : Addr).add n = ⟨b, off + n, none⟩ := by
 unfold Addr.add
 split
 ·next h => subst h; rfl
 ·rfl
theorem aL {w : World} {base : Nat} {T : TypeId} {g cap : Nat} {L : List Int} (h : w.ownsRow base T 1 (.slice (some ⟨g, 0, none⟩) L.length cap) L.length (itL L)) {i : Nat} (hi : i < L.length) : w.cell? ⟨g, i, none⟩ = some (.int .i64 (iat L i)) := by
 rcases h.2 with ⟨h, _⟩ | ⟨g', cap', cur, he, h2, h3, h4, h5, h6, h7⟩
 ·simp at h
 ·simp at he
  obtain ⟨rfl, rfl⟩ := he
  have hu : (itL L)[i]? = some (.int .i64 (iat L i)) := by simp [itL, iat, hi]
  rw [← h7, List.getElem?_take, if_pos (by omega)] at hu
  simp [World.cell?, h3]
  simpa using hu
theorem bO {w : World} {base : Nat} {T : TypeId} {g n cap : Nat} {xs : List Value} (h : w.ownsRow base T 1 (.slice (some ⟨g, 0, none⟩) n cap) n xs) : base ≤ g ∧ g < w.heap.size ∧ n ≤ cap ∧ cap ≤ maxLen := by
 have hl := h.lt g rfl
 rcases h.2 with ⟨h, _⟩ | ⟨g', cap', cur, he, h2, h3, h4, h5, h6, h7⟩
 ·simp at h
 ·simp at he
  obtain ⟨rfl, rfl⟩ := he
  exact ⟨hl.1, hl.2, h4, h5⟩
theorem ea {w : World} {base : Nat} {T : TypeId} {g cap : Nat} {L : List Int} (h : w.ownsRow base T 1 (.slice (some ⟨g, 0, none⟩) L.length cap) L.length (itL L)) {j : Nat} (hj : j ≤ L.length) : w.ownsRow base T 1 (.slice (some ⟨g, 0, none⟩) j cap) j (itL (L.take j)) := by
 rcases h.2 with ⟨h, _⟩ | ⟨g', cap', cur, he, h2, h3, h4, h5, h6, h7⟩
 ·simp at h
 ·simp at he
  obtain ⟨rfl, rfl⟩ := he
  refine ⟨by simp [itL]; omega, .inr ⟨g, cap, cur, rfl, h2, h3, by omega, h5, h6, ?_⟩⟩
  have : (cur.toList.take (L.length * 1)).take (j * 1) = (itL L).take j := by rw [h7]; simp
  rw [List.take_take] at this
  rw [show min (j * 1) (L.length * 1) = j * 1 by omega] at this
  rw [this]; simp [itL]
def ka (g j cap : Nat) : Addr := if cap = j then ⟨g, 0, none⟩ else ⟨g, j, none⟩
theorem lA (w : World) : (Go.sizeOf 3).run Tryz.prog w = .ok 1 w := by kernel_rfl
theorem ox : Tryz.prog.underlying 125 = some (.slice (Tryz.prog.elem 125)) := by simp [Program.elem, Tryz.underlying125]
theorem kc : Tryz.prog.elem 125 = 3 := by simp [Program.elem, Tryz.underlying125]
theorem dG (W : World) (g n cap j : Nat) (hj : j ≤ n) (hn : n ≤ cap) : (Instr.slice 125 (.slice (some ⟨g, 0, none⟩) n cap) (some (.int .i64 (j : Int))) none none).run Tryz.prog W = .ok (.slice (some (ka g j cap)) (n - j) (cap - j)) W := by
 rw [run_slice_l W 125 _ _ _ ox .i64 _ (by omega) (by omega), kc, lA]
 unfold ka
 by_cases h0 : cap = j
 ·simp [Result.andThen, sliced, h0]
 ·by_cases h1 : j = 0
  ·subst h1; simp [Result.andThen, sliced, Addr.add, h0]
  ·simp [Result.andThen, sliced, Addr.add, h0, h1]
theorem dF (W : World) (g n cap j : Nat) (hj : j ≤ n) (hn : n ≤ cap) : (Instr.slice 125 (.slice (some ⟨g, 0, none⟩) n cap) none (some (.int .i64 (j : Int))) none).run Tryz.prog W = .ok (.slice (some ⟨g, 0, none⟩) j cap) W := by
 rw [run_slice_h W 125 _ _ _ ox .i64 _ (by omega) (by omega), kc, lA]
 by_cases h0 : cap = 0
 ·simp [Result.andThen, sliced, h0]
 ·simp [Result.andThen, sliced, h0, Addr.add]
theorem dA {w : World} {base : Nat} {T : TypeId} {g cap : Nat} {L : List Int} (h : w.ownsRow base T 1 (.slice (some ⟨g, 0, none⟩) L.length cap) L.length (itL L)) {j : Nat} (hj : j ≤ L.length) : ∀ i u, (itL (L.drop j))[i]? = some u → w.cell? ((ka g j cap).add i) = some u := by
 intro i u hu
 have hi : i < L.length - j := by
  have : i < (itL (L.drop j)).length := (List.getElem?_eq_some_iff.1 hu).1
  simpa [itL] using this
 have hc := bO h
 have e : u = .int .i64 (iat L (j + i)) := by
  simp [itL] at hu
  obtain ⟨x, hx, rfl⟩ := hu
  simp [iat, hx]
 rw [ka, if_neg (by omega), nF, e]
 exact aL h (by omega)
theorem cJ (L : List Int) : ∀ u, u ∈ itL L → u.oneCell' = true := by
 intro u hu
 simp [itL] at hu
 obtain ⟨x, _, rfl⟩ := hu
 rfl
theorem fw (w : World) (x : Int) (T : TypeId) : ∀ j u, [Value.int .i64 x][j]? = some u → (w.alloc (.cells #[.int .i64 x] T)).cell? ((⟨w.heap.size, 0, none⟩ : Addr).add j) = some u := by
 intro j u h
 match j, h with
 | 0, h => simp at h; subst h; simp [Addr.add]
theorem cn {w : World} {base : Nat} {T : TypeId} {v : Value} {n : Nat} {xs : List Value} (h : w.ownsRow base T 1 v n xs) (hv : v ≠ .slice none 0 0) : ∃ g cap, v = .slice (some ⟨g, 0, none⟩) n cap := by
 rcases h.2 with ⟨h, _⟩ | ⟨g, cap, _, rfl, _⟩
 ·exact absurd h hv
 ·exact ⟨g, cap, rfl⟩
theorem dD {w : World} {base : Nat} {T : TypeId} {g cap : Nat} {L : List Int} (h : w.ownsRow base T 1 (.slice (some ⟨g, 0, none⟩) L.length cap) L.length (itL L)) : ∀ i u, (itL L)[i]? = some u → w.cell? ((⟨g, 0, none⟩ : Addr).add i) = some u := by
 intro i u hu
 have hi : i < L.length := by
  have : i < (itL L).length := (List.getElem?_eq_some_iff.1 hu).1
  simpa [itL] using this
 have e : u = .int .i64 (iat L i) := by
  simp [itL] at hu
  obtain ⟨x, hx, rfl⟩ := hu
  simp [iat, hx]
 rw [nF, e, Nat.zero_add]
 exact aL h hi
theorem bD {w w' : World} {base k : Nat} {T : TypeId} {n : Nat} {v : Value} {xs : List Value} (h : w.ownsRow base T 1 v n xs) (hg : w.grownBy w' (some k)) (hk : ∀ g, v.ownBlock = some g → g ≠ k) : w'.ownsRow base T 1 v n xs :=
 h.kept hg (by
  cases hv : v.ownBlock with
  | none => exact .inl rfl
  | some g => exact .inr (fun he => hk g hv (by simpa using he)))
theorem rm {f : Nat → Int × Int} {k : Nat} (h : k % 2 = 0) : pl f k = (f (k / 2)).1 := by simp [pl, h]
theorem sx {f : Nat → Int × Int} {k : Nat} (h : k % 2 = 1) : pl f k = (f (k / 2)).2 + 1 := by simp [pl, h]
theorem div2 (k : Nat) : (k : Int).tdiv 2 = ((k / 2 : Nat) : Int) := by rw [Int.tdiv_eq_ediv_of_nonneg (by omega)]; rfl
theorem mod2e {k : Nat} (h : k % 2 = 0) : (k : Int).tmod 2 = 0 := by rw [Int.tmod_eq_emod_of_nonneg (by omega)]; omega
theorem mod2o {k : Nat} (h : k % 2 = 1) : (k : Int).tmod 2 = 1 := by rw [Int.tmod_eq_emod_of_nonneg (by omega)]; omega
theorem dZ {x : Int} {L : List Int} (h : plc x L < L.length → iat L (plc x L) ≠ x) : (ins x L).length = L.length + 1 := by
 rw [ja h]; have := ji x L; simp; omega
theorem fs {x : Int} {L : List Int} (h : plc x L < L.length → iat L (plc x L) ≠ x) : itL (ins x L) = itL (L.take (plc x L)) ++ [.int .i64 x] ++ itL (L.drop (plc x L)) := by
 rw [ja h]; simp [itL]
def Tn (f : Nat → Int × Int) (k base : Nat) (v : Value) (w : World) : Prop := ∃ g cap, v = .slice (some ⟨g, 0, none⟩) (trn f k).length cap ∧ w.ownsRow base 3 1 v (trn f k).length (itL (trn f k))
theorem pi (a : Option Addr) (n c : Nat) (f : Nat → Int × Int) (w : World) (hn : n ≤ 12) (ho : be f n = true) (hs : Src w a n f) :
 Calls Tryz.prog 177 #[.slice a n c] w fun e w' => ∃ v, e = .returned v ∧ Tn f (2 * n) w.heap.size v w' ∧ Below w.heap.size w w' := by
 obtain ⟨i0, hi, hz0, hz1, hz2⟩ := info_parts ra
 have HS : Hid (Src w a n f) := hs
 have HO : Hid (∀ i, i < n → okI (f i).1 (f i).2 = true) := dV ho
 clear hs ho
 have O0 : Tn f 0 w.heap.size (.slice (some ⟨w.heap.size, 0, none⟩) 0 0) (w.alloc (.cells #[] 3)) := ⟨w.heap.size, 0, rfl, World.ownsRow_made w #[] 0 (Nat.le_refl _) (by simp [maxLen]) (by simp)⟩
 have B0 := Below.al9 w (.cells #[] 3)
 go_enter Tryz.func177, Tryz.ntmps177
 go_wp2_with fail
 go_loopw [3, 4] (fun v i wr => ∃ k : Nat, k ≤ 2 * n ∧ i = .int .i64 k ∧ Tn f k w.heap.size v wr ∧ Below w.heap.size w wr) (fun _ i _ => 2 * n - (intOf i).toNat)
 case atStart => exact ⟨0, Nat.zero_le _, rfl, O0, B0⟩
 case round =>
  obtain ⟨k, hk, rfl, ⟨g, cap, rfl, O⟩, B⟩ := hrel
  clear O0 B0
  by_cases hlt : k < 2 * n
  ·have hli : (k : Int) < 2 * (n : Int) := by omega
   rcases HS.out.below B with h0 | ⟨b, off, rfl, hp⟩
   ·omega
   have hk2 : k / 2 < n := by omega
   have c0 : wr.cell? ⟨b, off + k / 2 * 2, none⟩ = some (.int .i64 (f (k / 2)).1) := (hp.2 (k / 2) hk2).1
   have c1 : wr.cell? ⟨b, off + k / 2 * 2 + 1, none⟩ = some (.int .i64 (f (k / 2)).2) := (hp.2 (k / 2) hk2).2
   have hq2 := div2 k
   have hk2i : ((k / 2 : Nat) : Int) < (n : Int) := by omega
   obtain ⟨o1, o2, o3⟩ := bF (HO.out (k / 2) hk2)
   have hlen := dH f k
   have HE : Hid (trn f (k + 1) = ins (pl f k) (trn f k)) := rfl
   clear hp
   generalize trn f k = L at *
   rcases Nat.mod_two_eq_zero_or_one k with hmod | hmod
   ·have hm2 := mod2e hmod
    have HP : Hid (pl f k = (f (k / 2)).1) := rm hmod
    rw [HP.out] at HE
    clear HP hmod
    generalize (f (k / 2)).1 = x at *
    go_wp2_with fail
    generalize wr = V at *
    go_loopw [6] (fun i wr => ∃ j : Nat, i = .int .i64 j ∧ j ≤ plc x L ∧ V = wr) (fun i _ => L.length - (intOf i).toNat)
    case atStart => exact ⟨0, rfl, Nat.zero_le _, rfl⟩
    case round =>
     obtain ⟨j, rfl, hj, rfl⟩ := hrel
     have hpl := ji x L
     by_cases hjp : j < plc x L
     ·have hjl : (j : Int) < (L.length : Int) := by omega
      have c0 := aL O (i := j) (by omega)
      have hlt2 : iat L j < x := mK hjp
      have hd2 : decide (iat L j < x) = true := by simpa using hlt2
      generalize iat L j = y at *
      go_wp2_with fail
      go_roundw
      case rel => exact ⟨j + 1, by go_num, by omega, by first | rfl | trivial⟩
      case measure => simp [intOf]; omega
     ·obtain ⟨q, hqe⟩ : ∃ q, q = plc x L := ⟨_, rfl⟩
      have hjq : j = q := by omega
      subst hjq
      have HQ : Hid (plc x L = j) := hqe.symm
      have hq : j ≤ L.length := by omega
      by_cases hjl : j < L.length
      ·have hjl' : (j : Int) < (L.length : Int) := by omega
       have c0 := aL O (i := j) hjl
       have hge : ¬ iat L j < x := by rw [hqe]; exact mJ (by omega)
       by_cases heq : iat L j = x
       ·have HS9 : Hid (ins x L = L) := fQ (by omega) (by rw [← hqe]; exact heq)
        have hd1 : decide (iat L j < x) = false := by simp; omega
        have hd2 : (iat L j == x) = true := by rw [heq]; simp
        have R3 : Tn f (k + 1) w.heap.size (.slice (some ⟨g, 0, none⟩) L.length cap) V := by
         refine ⟨g, cap, by rw [HE.out, HS9.out], ?_⟩
         rw [HE.out, HS9.out]; exact O
        have HR3 : Hid (Tn f (k + 1) w.heap.size (.slice (some ⟨g, 0, none⟩) L.length cap) V) := R3
        clear heq hge R3 hqe HS9
        generalize iat L j = y at *
        go_wp2_with fail
        go_roundw
        case rel => exact ⟨k + 1, by omega, by go_num, HR3.out, B⟩
        case measure => simp [intOf]; omega
       ·have HNX : Hid (plc x L < L.length → iat L (plc x L) ≠ x) := fun _ => by rw [← hqe]; exact heq
        have hd1 : decide (iat L j < x) = false := by simp; omega
        have hd2 : (iat L j == x) = false := by rw [beq_eq_false_iff_ne]; exact heq
        clear heq hge hqe hjp hpl
        generalize iat L j = y at *
        have hC := bO O
        have eT := fun (W : World) => dG W g L.length cap j hq hC.2.2.1
        have eH := fun (W : World) => dF W g L.length cap j hq hC.2.2.1
        have OA := World.ownsRow.alloc O (.cells #[] 3)
        have OE : (V.alloc (.cells #[] 3)).ownsRow V.heap.size 3 1 (.slice (some ⟨V.heap.size, 0, none⟩) 0 0) 0 (itL []) := World.ownsRow_made V #[] 0 (Nat.le_refl _) (by simp [maxLen]) (by simp)
        have hsA : V.heap.size < (V.alloc (.cells #[] 3)).heap.size := by simp
        have BA := B.alloc B.size (.cells #[] 3)
        have hgV : g < V.heap.size := hC.2.1
        have hwV := B.size
        have hbg := hC.1
        clear O hC
        go_upto_region 13 with (at_builtin; refine wpList_append_own _ rfl _ _ 125 rfl V.heap.size 3 i0 (.int .i64 0) 1 8 Tryz.underlying125 hi hz0 hz1 hz2 rfl (by decide) _ _ _ rfl OE (ka g j cap) (L.length - j) (cap - j) (itL (L.drop j)) rfl (by rw [cH]; simp) (dA OA hq) (cJ _) (by unfold maxLen; omega) (by omega) (by simp) ?_; intro v1 w1 O1 hg1 hn1; (have hv1 : v1 ≠ .slice none 0 0 := fun h => by have := (hn1.1 h).1; cases this))
        clear eT
        obtain ⟨g1, cap1, rfl⟩ := cn O1 hv1
        have hC1 := bO O1
        have O1g := bD (k := V.heap.size) OA hg1 (fun a ha => by simp [Value.ownBlock] at ha; omega)
        have B1 := BA.trans ((aN OE hg1 (by simp)).mono hwV)
        have hs1 : V.heap.size < w1.heap.size := Nat.lt_of_lt_of_le hsA hg1.size
        have OC := ea O1g hq
        have OC2 := World.ownsRow.alloc OC (.cells #[.int .i64 x] 3)
        have OR2 := World.ownsRow.alloc O1 (.cells #[.int .i64 x] 3)
        have B2 := B1.alloc B1.size (.cells #[.int .i64 x] 3)
        have hs2 : V.heap.size < (w1.alloc (.cells #[.int .i64 x] 3)).heap.size := by simp; omega
        clear hn1 hv1 hg1 OE OA O1 O1g OC BA B1
        have HR2 : Hid ((w1.alloc (.cells #[.int .i64 x] 3)).ownsRow V.heap.size 3 1 (.slice (some ⟨g1, 0, none⟩) (0 + (L.length - j)) cap1) (0 + (L.length - j)) (itL [] ++ itL (L.drop j))) := OR2
        have HB2 : Hid (Below w.heap.size w (w1.alloc (.cells #[.int .i64 x] 3))) := B2
        clear OR2 B2
        go_wp2_with (first
         | (at_builtin; refine wpList_append_own _ rfl _ _ 125 rfl w.heap.size 3 i0 (.int .i64 0) 1 8 Tryz.underlying125 hi hz0 hz1 hz2 rfl (by decide) _ _ _ rfl OC2 ⟨w1.heap.size, 0, none⟩ 1 1 ([.int .i64 x]) rfl (rfl) (fw w1 x 3) (by intro u hu; simp at hu; subst hu; rfl) (by unfold maxLen; omega) (by omega) (by simp; omega) ?_; intro v2 w2 O2 hg2 hn2; (have O2r := bD (k := g) HR2.out hg2 (fun a ha => by simp [Value.ownBlock] at ha; omega)); (have B2' := HB2.out.trans ((aN OC2 hg2 (by simp; omega)))); (have s2 : V.heap.size < w2.heap.size := Nat.lt_of_lt_of_le hs2 hg2.size); (have O2r' : w2.ownsRow V.heap.size 3 1 (.slice (some ⟨g1, 0, none⟩) (L.drop j).length cap1) (L.drop j).length (itL (L.drop j)) := by simpa [show itL [] = [] from rfl] using O2r); (have hv2 : v2 ≠ .slice none 0 0 := fun h => by have := (hn2.1 h).1; cases this); clear OC2 HR2 HB2 O2r)
         | (at_builtin; refine wpList_append_own _ rfl _ _ 125 rfl w.heap.size 3 i0 (.int .i64 0) 1 8 Tryz.underlying125 hi hz0 hz1 hz2 rfl (by decide) _ _ _ rfl O2 ⟨g1, 0, none⟩ (L.length - j) cap1 (itL (L.drop j)) rfl (by rw [cH]; simp) (dD O2r') (cJ _) (by unfold maxLen; omega) (by omega) (by omega) ?_; intro v3 w3 O3 hg3 hn3))
        have B3 := B2'.trans (aN O2 hg3 (by omega))
        have hv3 : v3 ≠ .slice none 0 0 := fun h => hv2 (hn3.1 h).1
        obtain ⟨g3, cap3, e3⟩ := cn O3 hv3
        have R3 : Tn f (k + 1) w.heap.size v3 w3 := by
         have el : (trn f (k + 1)).length = j + 1 + (L.length - j) := by rw [HE.out, dZ HNX.out]; omega
         refine ⟨g3, cap3, by rw [el, e3], ?_⟩
         rw [el, HE.out, fs HNX.out, HQ.out]
         exact O3
        clear O3 e3 hv3 hg3 hn3 O2 hv2 hg2 hn2 O2r' B2'
        go_wp2
        go_roundw
        case rel => exact ⟨k + 1, by omega, by go_num, R3, B3⟩
        case measure => simp [intOf]; omega
      ·have hjl' : ¬ (j : Int) < (L.length : Int) := by omega
       have HNX : Hid (plc x L < L.length → iat L (plc x L) ≠ x) := fun h => absurd h (by omega)
       clear hqe hjp hpl
       have hC := bO O
       have eT := fun (W : World) => dG W g L.length cap j hq hC.2.2.1
       have eH := fun (W : World) => dF W g L.length cap j hq hC.2.2.1
       have OA := World.ownsRow.alloc O (.cells #[] 3)
       have OE : (V.alloc (.cells #[] 3)).ownsRow V.heap.size 3 1 (.slice (some ⟨V.heap.size, 0, none⟩) 0 0) 0 (itL []) := World.ownsRow_made V #[] 0 (Nat.le_refl _) (by simp [maxLen]) (by simp)
       have hsA : V.heap.size < (V.alloc (.cells #[] 3)).heap.size := by simp
       have BA := B.alloc B.size (.cells #[] 3)
       have hgV : g < V.heap.size := hC.2.1
       have hwV := B.size
       have hbg := hC.1
       clear O hC
       go_upto_region 13 with (at_builtin; refine wpList_append_own _ rfl _ _ 125 rfl V.heap.size 3 i0 (.int .i64 0) 1 8 Tryz.underlying125 hi hz0 hz1 hz2 rfl (by decide) _ _ _ rfl OE (ka g j cap) (L.length - j) (cap - j) (itL (L.drop j)) rfl (by rw [cH]; simp) (dA OA hq) (cJ _) (by unfold maxLen; omega) (by omega) (by simp) ?_; intro v1 w1 O1 hg1 hn1; (have hv1 : v1 ≠ .slice none 0 0 := fun h => by have := (hn1.1 h).1; cases this))
       clear eT
       obtain ⟨g1, cap1, rfl⟩ := cn O1 hv1
       have hC1 := bO O1
       have O1g := bD (k := V.heap.size) OA hg1 (fun a ha => by simp [Value.ownBlock] at ha; omega)
       have B1 := BA.trans ((aN OE hg1 (by simp)).mono hwV)
       have hs1 : V.heap.size < w1.heap.size := Nat.lt_of_lt_of_le hsA hg1.size
       have OC := ea O1g hq
       have OC2 := World.ownsRow.alloc OC (.cells #[.int .i64 x] 3)
       have OR2 := World.ownsRow.alloc O1 (.cells #[.int .i64 x] 3)
       have B2 := B1.alloc B1.size (.cells #[.int .i64 x] 3)
       have hs2 : V.heap.size < (w1.alloc (.cells #[.int .i64 x] 3)).heap.size := by simp; omega
       clear hn1 hv1 hg1 OE OA O1 O1g OC BA B1
       have HR2 : Hid ((w1.alloc (.cells #[.int .i64 x] 3)).ownsRow V.heap.size 3 1 (.slice (some ⟨g1, 0, none⟩) (0 + (L.length - j)) cap1) (0 + (L.length - j)) (itL [] ++ itL (L.drop j))) := OR2
       have HB2 : Hid (Below w.heap.size w (w1.alloc (.cells #[.int .i64 x] 3))) := B2
       clear OR2 B2
       go_wp2_with (first
        | (at_builtin; refine wpList_append_own _ rfl _ _ 125 rfl w.heap.size 3 i0 (.int .i64 0) 1 8 Tryz.underlying125 hi hz0 hz1 hz2 rfl (by decide) _ _ _ rfl OC2 ⟨w1.heap.size, 0, none⟩ 1 1 ([.int .i64 x]) rfl (rfl) (fw w1 x 3) (by intro u hu; simp at hu; subst hu; rfl) (by unfold maxLen; omega) (by omega) (by simp; omega) ?_; intro v2 w2 O2 hg2 hn2; (have O2r := bD (k := g) HR2.out hg2 (fun a ha => by simp [Value.ownBlock] at ha; omega)); (have B2' := HB2.out.trans ((aN OC2 hg2 (by simp; omega)))); (have s2 : V.heap.size < w2.heap.size := Nat.lt_of_lt_of_le hs2 hg2.size); (have O2r' : w2.ownsRow V.heap.size 3 1 (.slice (some ⟨g1, 0, none⟩) (L.drop j).length cap1) (L.drop j).length (itL (L.drop j)) := by simpa [show itL [] = [] from rfl] using O2r); (have hv2 : v2 ≠ .slice none 0 0 := fun h => by have := (hn2.1 h).1; cases this); clear OC2 HR2 HB2 O2r)
        | (at_builtin; refine wpList_append_own _ rfl _ _ 125 rfl w.heap.size 3 i0 (.int .i64 0) 1 8 Tryz.underlying125 hi hz0 hz1 hz2 rfl (by decide) _ _ _ rfl O2 ⟨g1, 0, none⟩ (L.length - j) cap1 (itL (L.drop j)) rfl (by rw [cH]; simp) (dD O2r') (cJ _) (by unfold maxLen; omega) (by omega) (by omega) ?_; intro v3 w3 O3 hg3 hn3))
       have B3 := B2'.trans (aN O2 hg3 (by omega))
       have hv3 : v3 ≠ .slice none 0 0 := fun h => hv2 (hn3.1 h).1
       obtain ⟨g3, cap3, e3⟩ := cn O3 hv3
       have R3 : Tn f (k + 1) w.heap.size v3 w3 := by
        have el : (trn f (k + 1)).length = j + 1 + (L.length - j) := by rw [HE.out, dZ HNX.out]; omega
        refine ⟨g3, cap3, by rw [el, e3], ?_⟩
        rw [el, HE.out, fs HNX.out, HQ.out]
        exact O3
       clear O3 e3 hv3 hg3 hn3 O2 hv2 hg2 hn2 O2r' B2'
       go_wp2
       go_roundw
       case rel => exact ⟨k + 1, by omega, by go_num, R3, B3⟩
       case measure => simp [intOf]; omega
   ·have hm2 := mod2o hmod
    have HP : Hid (pl f k = (f (k / 2)).2 + 1) := sx hmod
    rw [HP.out] at HE
    clear HP hmod
    generalize (f (k / 2)).1 = x0 at *
    generalize hx2 : (f (k / 2)).2 = x2 at *
    clear hx2
    go_wp2_with fail
    generalize x2 + 1 = x at *

    generalize wr = V at *
    go_loopw [6] (fun i wr => ∃ j : Nat, i = .int .i64 j ∧ j ≤ plc x L ∧ V = wr) (fun i _ => L.length - (intOf i).toNat)
    case atStart => exact ⟨0, rfl, Nat.zero_le _, rfl⟩
    case round =>
     obtain ⟨j, rfl, hj, rfl⟩ := hrel
     have hpl := ji x L
     by_cases hjp : j < plc x L
     ·have hjl : (j : Int) < (L.length : Int) := by omega
      have c0 := aL O (i := j) (by omega)
      have hlt2 : iat L j < x := mK hjp
      have hd2 : decide (iat L j < x) = true := by simpa using hlt2
      generalize iat L j = y at *
      go_wp2_with fail
      go_roundw
      case rel => exact ⟨j + 1, by go_num, by omega, by first | rfl | trivial⟩
      case measure => simp [intOf]; omega
     ·obtain ⟨q, hqe⟩ : ∃ q, q = plc x L := ⟨_, rfl⟩
      have hjq : j = q := by omega
      subst hjq
      have HQ : Hid (plc x L = j) := hqe.symm
      have hq : j ≤ L.length := by omega
      by_cases hjl : j < L.length
      ·have hjl' : (j : Int) < (L.length : Int) := by omega
       have c0 := aL O (i := j) hjl
       have hge : ¬ iat L j < x := by rw [hqe]; exact mJ (by omega)
       by_cases heq : iat L j = x
       ·have HS9 : Hid (ins x L = L) := fQ (by omega) (by rw [← hqe]; exact heq)
        have hd1 : decide (iat L j < x) = false := by simp; omega
        have hd2 : (iat L j == x) = true := by rw [heq]; simp
        have R3 : Tn f (k + 1) w.heap.size (.slice (some ⟨g, 0, none⟩) L.length cap) V := by
         refine ⟨g, cap, by rw [HE.out, HS9.out], ?_⟩
         rw [HE.out, HS9.out]; exact O
        have HR3 : Hid (Tn f (k + 1) w.heap.size (.slice (some ⟨g, 0, none⟩) L.length cap) V) := R3
        clear heq hge R3 hqe HS9
        generalize iat L j = y at *
        go_wp2_with fail
        go_roundw
        case rel => exact ⟨k + 1, by omega, by go_num, HR3.out, B⟩
        case measure => simp [intOf]; omega
       ·have HNX : Hid (plc x L < L.length → iat L (plc x L) ≠ x) := fun _ => by rw [← hqe]; exact heq
        have hd1 : decide (iat L j < x) = false := by simp; omega
        have hd2 : (iat L j == x) = false := by rw [beq_eq_false_iff_ne]; exact heq
        clear heq hge hqe hjp hpl
        generalize iat L j = y at *
        have hC := bO O
        have eT := fun (W : World) => dG W g L.length cap j hq hC.2.2.1
        have eH := fun (W : World) => dF W g L.length cap j hq hC.2.2.1
        have OA := World.ownsRow.alloc O (.cells #[] 3)
        have OE : (V.alloc (.cells #[] 3)).ownsRow V.heap.size 3 1 (.slice (some ⟨V.heap.size, 0, none⟩) 0 0) 0 (itL []) := World.ownsRow_made V #[] 0 (Nat.le_refl _) (by simp [maxLen]) (by simp)
        have hsA : V.heap.size < (V.alloc (.cells #[] 3)).heap.size := by simp
        have BA := B.alloc B.size (.cells #[] 3)
        have hgV : g < V.heap.size := hC.2.1
        have hwV := B.size
        have hbg := hC.1
        clear O hC
        go_upto_region 13 with (at_builtin; refine wpList_append_own _ rfl _ _ 125 rfl V.heap.size 3 i0 (.int .i64 0) 1 8 Tryz.underlying125 hi hz0 hz1 hz2 rfl (by decide) _ _ _ rfl OE (ka g j cap) (L.length - j) (cap - j) (itL (L.drop j)) rfl (by rw [cH]; simp) (dA OA hq) (cJ _) (by unfold maxLen; omega) (by omega) (by simp) ?_; intro v1 w1 O1 hg1 hn1; (have hv1 : v1 ≠ .slice none 0 0 := fun h => by have := (hn1.1 h).1; cases this))
        clear eT
        obtain ⟨g1, cap1, rfl⟩ := cn O1 hv1
        have hC1 := bO O1
        have O1g := bD (k := V.heap.size) OA hg1 (fun a ha => by simp [Value.ownBlock] at ha; omega)
        have B1 := BA.trans ((aN OE hg1 (by simp)).mono hwV)
        have hs1 : V.heap.size < w1.heap.size := Nat.lt_of_lt_of_le hsA hg1.size
        have OC := ea O1g hq
        have OC2 := World.ownsRow.alloc OC (.cells #[.int .i64 x] 3)
        have OR2 := World.ownsRow.alloc O1 (.cells #[.int .i64 x] 3)
        have B2 := B1.alloc B1.size (.cells #[.int .i64 x] 3)
        have hs2 : V.heap.size < (w1.alloc (.cells #[.int .i64 x] 3)).heap.size := by simp; omega
        clear hn1 hv1 hg1 OE OA O1 O1g OC BA B1
        have HR2 : Hid ((w1.alloc (.cells #[.int .i64 x] 3)).ownsRow V.heap.size 3 1 (.slice (some ⟨g1, 0, none⟩) (0 + (L.length - j)) cap1) (0 + (L.length - j)) (itL [] ++ itL (L.drop j))) := OR2
        have HB2 : Hid (Below w.heap.size w (w1.alloc (.cells #[.int .i64 x] 3))) := B2
        clear OR2 B2
        go_wp2_with (first
         | (at_builtin; refine wpList_append_own _ rfl _ _ 125 rfl w.heap.size 3 i0 (.int .i64 0) 1 8 Tryz.underlying125 hi hz0 hz1 hz2 rfl (by decide) _ _ _ rfl OC2 ⟨w1.heap.size, 0, none⟩ 1 1 ([.int .i64 x]) rfl (rfl) (fw w1 x 3) (by intro u hu; simp at hu; subst hu; rfl) (by unfold maxLen; omega) (by omega) (by simp; omega) ?_; intro v2 w2 O2 hg2 hn2; (have O2r := bD (k := g) HR2.out hg2 (fun a ha => by simp [Value.ownBlock] at ha; omega)); (have B2' := HB2.out.trans ((aN OC2 hg2 (by simp; omega)))); (have s2 : V.heap.size < w2.heap.size := Nat.lt_of_lt_of_le hs2 hg2.size); (have O2r' : w2.ownsRow V.heap.size 3 1 (.slice (some ⟨g1, 0, none⟩) (L.drop j).length cap1) (L.drop j).length (itL (L.drop j)) := by simpa [show itL [] = [] from rfl] using O2r); (have hv2 : v2 ≠ .slice none 0 0 := fun h => by have := (hn2.1 h).1; cases this); clear OC2 HR2 HB2 O2r)
         | (at_builtin; refine wpList_append_own _ rfl _ _ 125 rfl w.heap.size 3 i0 (.int .i64 0) 1 8 Tryz.underlying125 hi hz0 hz1 hz2 rfl (by decide) _ _ _ rfl O2 ⟨g1, 0, none⟩ (L.length - j) cap1 (itL (L.drop j)) rfl (by rw [cH]; simp) (dD O2r') (cJ _) (by unfold maxLen; omega) (by omega) (by omega) ?_; intro v3 w3 O3 hg3 hn3))
        have B3 := B2'.trans (aN O2 hg3 (by omega))
        have hv3 : v3 ≠ .slice none 0 0 := fun h => hv2 (hn3.1 h).1
        obtain ⟨g3, cap3, e3⟩ := cn O3 hv3
        have R3 : Tn f (k + 1) w.heap.size v3 w3 := by
         have el : (trn f (k + 1)).length = j + 1 + (L.length - j) := by rw [HE.out, dZ HNX.out]; omega
         refine ⟨g3, cap3, by rw [el, e3], ?_⟩
         rw [el, HE.out, fs HNX.out, HQ.out]
         exact O3
        clear O3 e3 hv3 hg3 hn3 O2 hv2 hg2 hn2 O2r' B2'
        go_wp2
        go_roundw
        case rel => exact ⟨k + 1, by omega, by go_num, R3, B3⟩
        case measure => simp [intOf]; omega
      ·have hjl' : ¬ (j : Int) < (L.length : Int) := by omega
       have HNX : Hid (plc x L < L.length → iat L (plc x L) ≠ x) := fun h => absurd h (by omega)
       clear hqe hjp hpl
       have hC := bO O
       have eT := fun (W : World) => dG W g L.length cap j hq hC.2.2.1
       have eH := fun (W : World) => dF W g L.length cap j hq hC.2.2.1
       have OA := World.ownsRow.alloc O (.cells #[] 3)
       have OE : (V.alloc (.cells #[] 3)).ownsRow V.heap.size 3 1 (.slice (some ⟨V.heap.size, 0, none⟩) 0 0) 0 (itL []) := World.ownsRow_made V #[] 0 (Nat.le_refl _) (by simp [maxLen]) (by simp)
       have hsA : V.heap.size < (V.alloc (.cells #[] 3)).heap.size := by simp
       have BA := B.alloc B.size (.cells #[] 3)
       have hgV : g < V.heap.size := hC.2.1
       have hwV := B.size
       have hbg := hC.1
       clear O hC
       go_upto_region 13 with (at_builtin; refine wpList_append_own _ rfl _ _ 125 rfl V.heap.size 3 i0 (.int .i64 0) 1 8 Tryz.underlying125 hi hz0 hz1 hz2 rfl (by decide) _ _ _ rfl OE (ka g j cap) (L.length - j) (cap - j) (itL (L.drop j)) rfl (by rw [cH]; simp) (dA OA hq) (cJ _) (by unfold maxLen; omega) (by omega) (by simp) ?_; intro v1 w1 O1 hg1 hn1; (have hv1 : v1 ≠ .slice none 0 0 := fun h => by have := (hn1.1 h).1; cases this))
       clear eT
       obtain ⟨g1, cap1, rfl⟩ := cn O1 hv1
       have hC1 := bO O1
       have O1g := bD (k := V.heap.size) OA hg1 (fun a ha => by simp [Value.ownBlock] at ha; omega)
       have B1 := BA.trans ((aN OE hg1 (by simp)).mono hwV)
       have hs1 : V.heap.size < w1.heap.size := Nat.lt_of_lt_of_le hsA hg1.size
       have OC := ea O1g hq
       have OC2 := World.ownsRow.alloc OC (.cells #[.int .i64 x] 3)
       have OR2 := World.ownsRow.alloc O1 (.cells #[.int .i64 x] 3)
       have B2 := B1.alloc B1.size (.cells #[.int .i64 x] 3)
       have hs2 : V.heap.size < (w1.alloc (.cells #[.int .i64 x] 3)).heap.size := by simp; omega
       clear hn1 hv1 hg1 OE OA O1 O1g OC BA B1
       have HR2 : Hid ((w1.alloc (.cells #[.int .i64 x] 3)).ownsRow V.heap.size 3 1 (.slice (some ⟨g1, 0, none⟩) (0 + (L.length - j)) cap1) (0 + (L.length - j)) (itL [] ++ itL (L.drop j))) := OR2
       have HB2 : Hid (Below w.heap.size w (w1.alloc (.cells #[.int .i64 x] 3))) := B2
       clear OR2 B2
       go_wp2_with (first
        | (at_builtin; refine wpList_append_own _ rfl _ _ 125 rfl w.heap.size 3 i0 (.int .i64 0) 1 8 Tryz.underlying125 hi hz0 hz1 hz2 rfl (by decide) _ _ _ rfl OC2 ⟨w1.heap.size, 0, none⟩ 1 1 ([.int .i64 x]) rfl (rfl) (fw w1 x 3) (by intro u hu; simp at hu; subst hu; rfl) (by unfold maxLen; omega) (by omega) (by simp; omega) ?_; intro v2 w2 O2 hg2 hn2; (have O2r := bD (k := g) HR2.out hg2 (fun a ha => by simp [Value.ownBlock] at ha; omega)); (have B2' := HB2.out.trans ((aN OC2 hg2 (by simp; omega)))); (have s2 : V.heap.size < w2.heap.size := Nat.lt_of_lt_of_le hs2 hg2.size); (have O2r' : w2.ownsRow V.heap.size 3 1 (.slice (some ⟨g1, 0, none⟩) (L.drop j).length cap1) (L.drop j).length (itL (L.drop j)) := by simpa [show itL [] = [] from rfl] using O2r); (have hv2 : v2 ≠ .slice none 0 0 := fun h => by have := (hn2.1 h).1; cases this); clear OC2 HR2 HB2 O2r)
        | (at_builtin; refine wpList_append_own _ rfl _ _ 125 rfl w.heap.size 3 i0 (.int .i64 0) 1 8 Tryz.underlying125 hi hz0 hz1 hz2 rfl (by decide) _ _ _ rfl O2 ⟨g1, 0, none⟩ (L.length - j) cap1 (itL (L.drop j)) rfl (by rw [cH]; simp) (dD O2r') (cJ _) (by unfold maxLen; omega) (by omega) (by omega) ?_; intro v3 w3 O3 hg3 hn3))
       have B3 := B2'.trans (aN O2 hg3 (by omega))
       have hv3 : v3 ≠ .slice none 0 0 := fun h => hv2 (hn3.1 h).1
       obtain ⟨g3, cap3, e3⟩ := cn O3 hv3
       have R3 : Tn f (k + 1) w.heap.size v3 w3 := by
        have el : (trn f (k + 1)).length = j + 1 + (L.length - j) := by rw [HE.out, dZ HNX.out]; omega
        refine ⟨g3, cap3, by rw [el, e3], ?_⟩
        rw [el, HE.out, fs HNX.out, HQ.out]
        exact O3
       clear O3 e3 hv3 hg3 hn3 O2 hv2 hg2 hn2 O2r' B2'
       go_wp2
       go_roundw
       case rel => exact ⟨k + 1, by omega, by go_num, R3, B3⟩
       case measure => simp [intOf]; omega
  ·have hkn : k = 2 * n := by omega
   have hli : ¬ (k : Int) < 2 * (n : Int) := by omega
   go_wp2_with fail
   go_ret
   exact ⟨_, rfl, by rw [← hkn]; exact ⟨g, cap, rfl, O⟩, B⟩
end Go.Proofs.YtikbjljkakabdaaGreat
