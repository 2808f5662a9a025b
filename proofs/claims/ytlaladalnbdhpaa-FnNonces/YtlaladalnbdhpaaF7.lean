/- Lists of asks; the contract of a book its takeLate. -/
import Derived.Test.YtlaladalnbdhpaaC1
import Derived.Test.YtlaladalnbdhpaaD7
import Derived.Deep.RegionHeld3
import Derived.Deep.DeepCutAuto
import Derived.WalkKit
import Derived.WalkSpells
import Derived.WalkLawsBesides
import Derived.Deep.RegionHeld
namespace Go.Proofs.Ytlaladalnbdhpaa
open Go.RowKit
set_option linter.unusedVariables false
theorem But.newK {w w' w'' : World} {p j : Nat} (h : But p w w') (hb : But j w' w'') (hj : w.heap.size ≤ j) : But p w w'' :=
  ⟨hb.1.trans h.1, hb.2.1.trans h.2.1, hb.2.2.1.trans h.2.2.1, Nat.le_trans h.2.2.2.1 hb.2.2.2.1, fun k hk hp => (hb.2.2.2.2 k (Nat.lt_of_lt_of_le hk h.2.2.2.1) (by omega)).trans (h.2.2.2.2 k hk hp)⟩
theorem But.growK {w w' w'' : World} {p : Nat} {o : Option Nat} (h : But p w w') (hg : w'.grownBy w'' o) (ho : ∀ q, q < w.heap.size → some q ≠ o) : But p w w'' :=
  ⟨hg.os.trans h.1, hg.tape.trans h.2.1, hg.output.trans h.2.2.1, Nat.le_trans h.2.2.2.1 hg.size, fun k hk hp => (hg.block k (Nat.lt_of_lt_of_le hk h.2.2.2.1) (ho k hk)).trans (h.2.2.2.2 k hk hp)⟩
/- A list of asks as a function of the place. -/
def rowL (L : List KT) (j : Nat) : KT := L.getD j zK
theorem rowL_app {L : List KT} {a : KT} {j : Nat} : rowL (L ++ [a]) j = if j = L.length then a else rowL L j := by
  unfold rowL
  by_cases h : j = L.length
  · rw [if_pos h, h]; simp
  · rw [if_neg h]
    by_cases h2 : j < L.length
    · simp [List.getElem?_append_left h2]
    · have e1 : (L ++ [a])[j]? = none := List.getElem?_eq_none (by simp; omega)
      have e2 : L[j]? = none := List.getElem?_eq_none (by omega)
      simp [e1, e2]
theorem krowL_add (L : List KT) (x0 x1 x2 x3 : Int) : krow (rowL L) L.length ++ [.int .i64 x0, .int .i64 x1, .int .i64 x2, .int .i64 x3] = krow (rowL (L ++ [kT x0 x1 x2 x3])) (L.length + 1) := by
  have e : krow (rowL L) L.length = krow (rowL (L ++ [kT x0 x1 x2 x3])) L.length := krow_congr fun j hj => by rw [rowL_app, if_neg (by omega)]
  rw [e]
  refine krow_add ?_
  rw [rowL_app, if_pos rfl]
  rfl
def FL (F : Int → Option KT) (L : List KT) : Prop := FA F (rowL L) L.length
theorem FA.congr {F : Int → Option KT} {A C : Nat → KT} {m : Nat} (h : FA F A m) (e : ∀ j, j < m → A j = C j) : FA F C m :=
  ⟨fun i j hij hj => by rw [← e i (by omega), ← e j hj]; exact h.1 i j hij hj, fun j hj => by rw [← e j hj]; exact h.2.1 j hj, fun x hx => h.2.2 x fun j hj => by rw [e j hj]; exact hx j hj⟩
theorem rowL_mid {L1 L2 : List KT} {a : KT} : rowL (L1 ++ a :: L2) L1.length = a := by simp [rowL]
theorem FL.at {F : Int → Option KT} {L1 L2 : List KT} {a : KT} (h : FL F (L1 ++ a :: L2)) : F a.1 = some a := by
  have := h.2.1 L1.length (by simp)
  rw [rowL_mid] at this
  exact this
theorem FL.cut {F : Int → Option KT} {L1 L2 : List KT} {a : KT} (h : FL F (L1 ++ a :: L2)) : FL (fun q => if q = a.1 then none else F q) (L1 ++ L2) := by
  have h1 := FA.cut (i := L1.length) h (by simp) (x := a.1) (by rw [rowL_mid])
  have e : (L1 ++ a :: L2).length - 1 = (L1 ++ L2).length := by simp
  rw [e] at h1
  refine h1.congr fun j hj => ?_
  unfold cutK rowL
  by_cases q : j < L1.length
  · rw [if_pos q]; simp [List.getElem?_append_left q]
  · rw [if_neg q]
    have e1 : (L1 ++ a :: L2)[j + 1]? = L2[j - L1.length]? := by
      rw [List.getElem?_append_right (by omega), show j + 1 - L1.length = (j - L1.length) + 1 by omega, List.getElem?_cons_succ]
    have e2 : (L1 ++ L2)[j]? = L2[j - L1.length]? := List.getElem?_append_right (by omega)
    simp [e1, e2]
def ltB (x p : Int) (K : KT) : Bool := decide (p < x - K.2.2.1)
def gon (x p : Int) (L : List KT) : List KT := L.filter (ltB x p)
def kep (x p : Int) (L : List KT) : List KT := L.filter (fun K => !ltB x p K)
theorem gon_snoc {x p : Int} {L : List KT} {a : KT} : gon x p (L ++ [a]) = if ltB x p a = true then gon x p L ++ [a] else gon x p L := by
  unfold gon
  rw [List.filter_append]
  by_cases h : ltB x p a = true
  · rw [if_pos h]; simp [h]
  · rw [if_neg h]; simp [h]
theorem kep_snoc {x p : Int} {L : List KT} {a : KT} : kep x p (L ++ [a]) = if ltB x p a = true then kep x p L else kep x p L ++ [a] := by
  unfold kep
  rw [List.filter_append]
  by_cases h : ltB x p a = true
  · rw [if_pos h]; simp [h]
  · rw [if_neg h]; simp [h]
theorem gon_le (x p : Int) (L : List KT) : (gon x p L).length ≤ L.length := List.length_filter_le _ _
theorem kep_le (x p : Int) (L : List KT) : (kep x p L).length ≤ L.length := List.length_filter_le _ _
theorem take_snoc {L : List KT} {k : Nat} {a : KT} (h : L[k]? = some a) : L.take (k + 1) = L.take k ++ [a] ∧ L.drop k = a :: L.drop (k + 1) := by
  have hk : k < L.length := (List.getElem?_eq_some_iff.1 h).1
  have ha : L[k] = a := (List.getElem?_eq_some_iff.1 h).2
  exact ⟨by rw [List.take_add_one, h]; rfl, by rw [List.drop_eq_getElem_cons hk, ha]⟩
/- A list read off a row. -/
def lst (M : Nat → KT) (n : Nat) : List KT := (List.range n).map M
theorem lst_len (M : Nat → KT) (n : Nat) : (lst M n).length = n := by simp [lst]
theorem lst_at {M : Nat → KT} {n j : Nat} (h : j < n) : (lst M n)[j]? = some (M j) := by simp [lst, h]
theorem rowL_lst {M : Nat → KT} {n j : Nat} (h : j < n) : rowL (lst M n) j = M j := by unfold rowL; rw [List.getD_eq_getElem?_getD, lst_at h]; rfl
theorem FL_lst {F : Int → Option KT} {M : Nat → KT} {n : Nat} (h : FA F M n) : FL F (lst M n) := by
  unfold FL
  rw [lst_len]
  exact h.congr fun j hj => (rowL_lst hj).symm
set_option maxRecDepth 100000 in
set_option maxHeartbeats 8000000 in
theorem take_but (bx bm n : Nat) (ep us x y0 y1 y2 y3 : Int) (F : Int → Option KT) (w : World) (X : Bx3 w bx (.int .i64 ep) (.int .i64 us) (.map (some bm))) (MP : MapK w bm n F) (hwx : (Lit.int .i64 x).wf = true) (hF : (F x).getD zK = kT y0 y1 y2 y3) (hne : bx ≠ bm) :
    Calls Try.prog 28 #[.pointer (some ⟨bx, 0, none⟩), .int .i64 x] w fun e w' => e = .returned (.agg #[.int .i64 y0, .int .i64 y1, .int .i64 y2, .int .i64 y3]) ∧ Bx3 w' bx (.int .i64 ep) (.int .i64 us) (.map (some bm)) ∧ MapK w' bm n (fun q => if q = x then none else F q) ∧ But bm w w' := by
  have A0 := Below.nw w (.cells #[.int .i64 0, .int .i64 0, .int .i64 0, .int .i64 0] 34)
  have R := Bf4.new w 0 0 0 0 34
  have B := A0
  have hbx := X.1
  have hbm := MP.lt
  replace X := X.below A0
  replace MP := MP.below A0
  clear A0
  go_enter Try.func28, Try.ntmps28
  go_upto_region 1 with fail
  generalize w.alloc (.cells #[.int .i64 0, .int .i64 0, .int .i64 0, .int .i64 0] 34) = wa at *
  obtain ⟨x0, x1, x2, x3, -, -, -⟩ := id X
  have hlook := MP.look hwx
  rw [hF] at hlook
  simp only [kv, kT] at hlook
  have hwa : w.heap.size < wa.heap.size := R.1.1
  go_upto_region 2 with fail
  clear x0 x1 x2 x3
  clear hlook hF
  have A1 := Below.nw wa (.cells #[.int .i64 y0, .int .i64 y1, .int .i64 y2, .int .i64 y3] 34)
  have Kx := Bf4.new wa y0 y1 y2 y3 34
  replace X := X.below A1
  replace MP := MP.below A1
  replace R := R.below A1
  replace B := B.trans (A1.mono B.size)
  clear A1
  generalize hbk : wa.heap.size = bk at *
  generalize wa.alloc (.cells #[.int .i64 y0, .int .i64 y1, .int .i64 y2, .int .i64 y3] 34) = wb at *
  obtain ⟨w10, hdel, MP1, hg⟩ := MP.del hwx 0
  have HD : ∀ ty, (Builtin.delete_ #[48, 3] ty #[.map (some bm), .int .i64 x]).run Try.prog wb = .ok (.tuple #[]) w10 := fun ty => hdel
  obtain ⟨x0, x1, x2, x3, -, -, -⟩ := id X
  go_upto_region 3 with fail
  clear x0 x1 x2 x3
  have PB := But.ofGrownK hg
  replace X := X.but PB hne
  replace R := R.but PB (by omega)
  replace Kx := Kx.but PB (by omega)
  have B1 : But bm w w10 := (But.of_below B).trans PB
  clear hg PB HD hdel MP B
  have P7 := put4_but w10 w.heap.size y0 y1 y2 y3
  have RQ := R.set y0 y1 y2 y3
  have XQ := X.but P7 (by omega)
  have MQ := MP1.but P7 (by omega)
  have BQ := B1.newK P7 (Nat.le_refl _)
  obtain ⟨⟨r0, r1, r2, r3, r4⟩, r5, r6, r7, r8⟩ := R
  obtain ⟨⟨k0, k1, k2, k3, k4⟩, -, -, -, -⟩ := Kx
  clear X MP1 P7
  go_wp2_with fail
  unfold put4 at RQ XQ MQ BQ
  generalize (((w10.setCell ⟨w.heap.size, 0, none⟩ (.int .i64 y0)).setCell ⟨w.heap.size, 1, none⟩ (.int .i64 y1)).setCell ⟨w.heap.size, 2, none⟩ (.int .i64 y2)).setCell ⟨w.heap.size, 3, none⟩ (.int .i64 y3) = wq at *
  obtain ⟨⟨q0, q1, q2, q3, q4⟩, -, -, -, -⟩ := RQ
  exact bodyPost_ret (v := .agg #[.int .i64 y0, .int .i64 y1, .int .i64 y2, .int .i64 y3]) (by simp (maxDischargeDepth := 6) [results, Try.results28, go_sem, q1, q2, q3, q4]) rfl ⟨rfl, XQ, MQ, BQ⟩
def TakenLate (w : World) (bx bm n : Nat) (ep us x p : Int) (L : List KT) (e : Ending) (w' : World) : Prop := ∃ (a' : Option Addr) (c' : Nat) (F' : Int → Option KT), e = .returned (.slice a' (gon x p L).length c') ∧ w'.ownsRow w.heap.size 34 4 (.slice a' (gon x p L).length c') (gon x p L).length (krow (rowL (gon x p L)) (gon x p L).length) ∧ Bx3 w' bx (.int .i64 ep) (.int .i64 us) (.map (some bm)) ∧ MapK w' bm n F' ∧ FL F' (kep x p L) ∧ But bm w w'
theorem field2_run (y0 y1 y2 y3 : Int) (w : World) : (Instr.field 34 (.agg #[.int .i64 y0, .int .i64 y1, .int .i64 y2, .int .i64 y3]) 2).run Try.prog w = .ok (.int .i64 y2) w := by
  first | kernel_rfl | (simp [Instr.field, run_underlying Try.underlying34, go_sem]; done)
def atB (L : List KT) : Prop := ∀ K ∈ L, 0 ≤ K.2.2.1 ∧ K.2.2.1 ≤ 1000000000000
set_option maxRecDepth 100000 in
set_option maxHeartbeats 16000000 in
theorem takeLate_any (bx bm n : Nat) (ep us x p : Int) (F : Int → Option KT) (L : List KT) (w : World) (X : Bx3 w bx (.int .i64 ep) (.int .i64 us) (.map (some bm))) (MP : MapK w bm n F) (hn : n ≤ 900) (hF : FL F L) (hne : bx ≠ bm) (hx : 0 ≤ x ∧ x ≤ 1000000000000) (hat : atB L) :
    Calls Try.prog 25 #[.pointer (some ⟨bx, 0, none⟩), .int .i64 x, .int .i64 p] w fun e w' => TakenLate w bx bm n ep us x p L e w' := by
  obtain ⟨i0, hi, hz0, hz1, hz2⟩ := infoK_parts
  have hm : L.length ≤ n := MP.size hF
  have HWF : Hid (∀ j, j < L.length → (Lit.int .i64 (rowL L j).1).wf = true) := MP.wf hF
  have HAT : Hid (atB L) := hat
  have HFL : Hid (FL F L) := hF
  have hbx := X.1
  have hbm := MP.lt
  have CN := nonces_any bx bm n L.length _ _ F (rowL L) w X MP (by omega) hF
  clear hat hF
  go_enter Try.func25, Try.ntmps25
  go_wp2_with fail
  refine CN.mono ?_
  rintro e w2 ⟨vz, rfl, Z', hb⟩
  replace X := X.below hb
  replace MP := MP.below hb
  have B' := But.of_below (p := bm) hb
  have hw2 := hb.size
  clear hb CN
  replace Z' : w2.ownsRow w.heap.size 3 1 vz L.length ((List.range (L.length * 1)).map fun j => Value.int .i64 (rowL L j).1) := by rw [Nat.mul_one]; exact Z'
  obtain ⟨az, cz, rfl, hcz, hcz2, SZ'⟩ := ownF_src Z'
  have hgz : ∀ g off, az = some ⟨g, off, none⟩ → w.heap.size ≤ g ∧ g < w2.heap.size ∧ off = 0 := by
    intro g off e
    have h1 := own_at Z' e
    have h2 := World.ownsRow.lt Z' g h1
    refine ⟨h2.1, h2.2, ?_⟩
    rcases Z'.2 with ⟨he, _⟩ | ⟨g', cap, cur, he, _⟩
    · simp at he; rw [he.1] at e; cases e
    · simp at he; rw [he.1] at e; simp at e; exact e.2.symm
  have HGZ : Hid (∀ g off, az = some ⟨g, off, none⟩ → w.heap.size ≤ g ∧ g < w2.heap.size ∧ off = 0) := hgz
  clear hgz Z'
  go_wp2_with fail
  generalize hjz : w2.heap.size = jz at *
  go_loopw [7, 13] (fun s7 s13 wr => ∃ (k : Nat) (vk : Value) (Fk : Int → Option KT), k ≤ L.length ∧ s13 = .int .i64 (k : Int) ∧ s7 = vk ∧ wr.ownsRow jz 34 4 vk (gon x p (L.take k)).length (krow (rowL (gon x p (L.take k))) (gon x p (L.take k)).length) ∧ jz ≤ wr.heap.size ∧ Bx3 wr bx (.int .i64 ep) (.int .i64 us) (.map (some bm)) ∧ MapK wr bm n Fk ∧ FL Fk (kep x p (L.take k) ++ L.drop k) ∧ SrcC wr az (L.length * 1) (fun j => Value.int .i64 (rowL L j).1) ∧ But bm w wr) (fun _ s13 _ => L.length - (vI s13).toNat)
  case atStart => exact ⟨0, _, F, Nat.zero_le _, rfl, rfl, World.ownsRow_nil _ _ _ _, by omega, X, MP, HFL.out, SZ', B'⟩
  case round =>
    clear X MP SZ' B'
    obtain ⟨k, vk, Fk, hk, rfl, rfl, W, hjw, X, MP, HF, SZ, B⟩ := hrel
    have HFk : Hid (FL Fk (kep x p (L.take k) ++ L.drop k)) := HF
    clear HF
    by_cases hlt : k < L.length
    · have hli : (k : Int) < (L.length : Int) := by omega
      rcases SZ with h0 | ⟨g, off, hazg, CZ⟩
      · omega
      subst hazg
      obtain ⟨hg1, hg2, hg3⟩ := HGZ.out g off rfl
      subst hg3
      obtain ⟨a, hLk⟩ : ∃ a, L[k]? = some a := ⟨L[k], by simp [hlt]⟩
      obtain ⟨y0, y1, y2, y3⟩ := a
      obtain ⟨et, ed⟩ := take_snoc hLk
      have hrl : rowL L k = (y0, y1, y2, y3) := by unfold rowL; rw [List.getD_eq_getElem?_getD, hLk]; rfl
      have cz0 : wr.cell? ⟨g, 0 + k, none⟩ = some (.int .i64 (rowL L k).1) := CZ.2 k (by omega)
      rw [hrl, Nat.zero_add] at cz0
      have hwf : (Lit.int .i64 y0).wf = true := by have := HWF.out k hlt; rw [hrl] at this; exact this
      have hy2 : 0 ≤ y2 ∧ y2 ≤ 1000000000000 := HAT.out (y0, y1, y2, y3) (List.mem_of_getElem? hLk)
      have hFy : Fk y0 = some (kT y0 y1 y2 y3) := by
        have q := HFk.out
        rw [ed] at q
        exact q.at
      have hlook := MP.look hwf
      rw [hFy] at hlook
      simp only [Option.getD, kv, kT] at hlook
      have hfld := field2_run y0 y1 y2 y3 wr
      have hws : IntKind.i64.wrap (x - y2) = x - y2 := Go.IntWalk.i64_in _ ⟨by omega, by omega⟩
      have HET : Hid (L.take (k + 1) = L.take k ++ [kT y0 y1 y2 y3]) := et
      have HED : Hid (L.drop k = kT y0 y1 y2 y3 :: L.drop (k + 1)) := ed
      have hgl := CZ.1
      have hgk := gon_le x p (L.take k)
      have hgk2 : (L.take k).length ≤ k := by simp; omega
      clear et ed hrl hLk hy2
      obtain ⟨x0, x1, x2, x3, -, -, -⟩ := id X
      cases hlate : ltB x p (kT y0 y1 y2 y3)
      · have hd : decide (p < x - y2) = false := hlate
        have HG : Hid (gon x p (L.take (k + 1)) = gon x p (L.take k)) := by rw [Hid, HET.out, gon_snoc, if_neg (by rw [hlate]; decide)]
        have HK : Hid (kep x p (L.take (k + 1)) ++ L.drop (k + 1) = kep x p (L.take k) ++ L.drop k) := by rw [Hid, HET.out, kep_snoc, if_neg (by rw [hlate]; decide), HED.out, List.append_assoc]; rfl
        clear hFy hlate
        go_wp2_with fail
        go_roundw
        case rel => exact ⟨k + 1, _, Fk, by omega, by go_num, rfl, by rw [HG.out]; exact W, hjw, X, MP, by rw [HK.out]; exact HFk.out, .inr ⟨g, 0, rfl, CZ⟩, B⟩
        case measure => simp [vI]; omega
      · have hd : decide (p < x - y2) = true := hlate
        have HG : Hid (gon x p (L.take (k + 1)) = gon x p (L.take k) ++ [kT y0 y1 y2 y3]) := by rw [Hid, HET.out, gon_snoc, if_pos hlate]
        have HK : Hid (kep x p (L.take (k + 1)) = kep x p (L.take k)) := by rw [Hid, HET.out, kep_snoc, if_pos hlate]
        clear hlate
        go_wp2_with fail
        clear x0 x1 x2 x3 cz0 hlook hd hws hfld
        refine (take_but bx bm n ep us y0 y0 y1 y2 y3 Fk wr X MP hwf (by rw [hFy]; rfl) hne).mono ?_
        rintro e w5 ⟨rfl, X5, MP5, hb5⟩
        have hs5 := hb5.2.2.2.1
        have W5 := own_neK W hb5 (fun q hq e => by have := (World.ownsRow.lt W q hq).1; omega)
        have CZ5 := CZ.but hb5 (by omega)
        have B5 := B.trans hb5
        have HF5 : Hid (FL (fun q => if q = y0 then none else Fk q) (kep x p (L.take k) ++ L.drop (k + 1))) := by
          have q := HFk.out
          rw [HED.out] at q
          exact q.cut
        clear X MP W CZ B hb5 hFy HFk
        have A6 := Below.nw w5 (.cells #[.int .i64 y0, .int .i64 y1, .int .i64 y2, .int .i64 y3] 34)
        have W6 := World.ownsRow.alloc W5 (.cells #[.int .i64 y0, .int .i64 y1, .int .i64 y2, .int .i64 y3] 34)
        have HN : Hid (∀ j u, [Value.int .i64 y0, .int .i64 y1, .int .i64 y2, .int .i64 y3][j]? = some u → (w5.alloc (.cells #[.int .i64 y0, .int .i64 y1, .int .i64 y2, .int .i64 y3] 34)).cell? ((⟨w5.heap.size, 0, none⟩ : Addr).add j) = some u) := fun j u hu => four_at w5 y0 y1 y2 y3 34 j u hu
        have HW : Hid (krow (rowL (gon x p (L.take k))) (gon x p (L.take k)).length ++ [.int .i64 y0, .int .i64 y1, .int .i64 y2, .int .i64 y3] = krow (rowL (gon x p (L.take (k + 1)))) (gon x p (L.take (k + 1))).length) := by
          rw [Hid, HG.out, List.length_append]
          exact krowL_add _ _ _ _ _
        have HGL : Hid ((gon x p (L.take (k + 1))).length = (gon x p (L.take k)).length + 1) := by rw [Hid, HG.out]; simp
        generalize (gon x p (L.take k)).length = gl at *
        go_wp2_with (at_builtin; refine wpList_append_own _ rfl _ _ 24 rfl jz 34 i0 (.agg #[.int .i64 0, .int .i64 0, .int .i64 0, .int .i64 0]) 4 32 Try.underlying24 hi hz0 hz1 hz2 rfl (by decide) _ _ _ rfl W6 ⟨w5.heap.size, 0, none⟩ 1 1 [.int .i64 y0, .int .i64 y1, .int .i64 y2, .int .i64 y3] rfl rfl HN.out (four_one _ _ _ _) ?c3 ?c4 ?c5 ?_)
        case c3 => unfold maxLen; omega
        case c4 => omega
        case c5 => simp; omega
        intro v' wn hown' hgrow _
        rw [HW.out] at hown'
        have G := grown_belowK W6 hgrow (by simp; omega)
        have hs6 : w5.heap.size ≤ (w5.alloc (.cells #[.int .i64 y0, .int .i64 y1, .int .i64 y2, .int .i64 y3] 34)).heap.size := A6.size
        have X6 := (X5.below A6).kept3 hgrow (fun e => by have := (World.ownsRow.lt W6 _ e.symm).1; omega)
        have MP6 := (MP5.below A6).kept hgrow (fun e => by have := (World.ownsRow.lt W6 _ e.symm).1; omega)
        have CZ6 := (CZ5.below A6 CZ5.1).below G hg2
        have B6 : But bm w wn := (B5.trans (But.of_below A6)).growK hgrow (fun q hq e => by have := (World.ownsRow.lt W6 _ e.symm).1; omega)
        have hjn : jz ≤ wn.heap.size := Nat.le_trans (by omega) hgrow.size
        clear A6 W6 W5 X5 MP5 CZ5 B5 HN HW hgrow G
        go_wp2_with fail
        go_roundw
        case rel => exact ⟨k + 1, v', _, by omega, by go_num, rfl, by rw [HGL.out] at *; exact hown', hjn, X6, MP6, by rw [HK.out]; exact HF5.out, .inr ⟨g, 0, rfl, CZ6⟩, B6⟩
        case measure => simp [vI]; omega
    · have hkn : k = L.length := by omega
      have hli : ¬ (k : Int) < (L.length : Int) := by omega
      have ek : L.take k = L := List.take_of_length_le (by omega)
      have ed : L.drop k = [] := List.drop_of_length_le (by omega)
      rw [ek] at W
      have HFF : Hid (FL Fk (kep x p L)) := by have := HFk.out; rw [ek, ed, List.append_nil] at this; exact this
      clear ek ed HFk
      obtain ⟨a', c', rfl, _, _, _⟩ := ownF_src W
      have HP : Hid (wr.ownsRow w.heap.size 34 4 (.slice a' (gon x p L).length c') (gon x p L).length (krow (rowL (gon x p L)) (gon x p L).length) ∧ Bx3 wr bx (.int .i64 ep) (.int .i64 us) (.map (some bm)) ∧ MapK wr bm n Fk ∧ FL Fk (kep x p L) ∧ But bm w wr) := ⟨ownK_le W (by omega), X, MP, HFF.out, B⟩
      clear W X MP B SZ
      go_wp2_with fail
      go_ret
      exact ⟨a', c', Fk, rfl, HP.out⟩
end Go.Proofs.Ytlaladalnbdhpaa
