/- The contract of spec.CoverRuns. -/
import Derived.Test.YtikbjljkakabdaaGreatMB0
import Derived.Test.YtikbjljkakabdaaGreatMB36
namespace Go.Proofs.YtikbjljkakabdaaGreat
open Go.RowKit
set_option linter.unusedVariables false
set_option maxRecDepth 100000
set_option maxHeartbeats 16000000
theorem mL (L : List (Int × Int)) : (prs L).length = L.length * 2 := by
 induction L with
 | nil => rfl
 | cons q L ih =>
  have e : prs (q :: L) = .int .i64 q.1 :: .int .i64 q.2 :: prs L := by simp [prs]
  rw [e]; simp [ih]; omega
theorem mH {w : World} {base g T n cap : Nat} {h : Nat → Value} {xs : List Value} (hr : w.rowIs g T (cap * 2) h) (hb : base ≤ g) (hn : n ≤ cap) (hc : cap ≤ maxLen) (hx : xs.length = n * 2) (hq : ∀ j, j < n * 2 → xs[j]? = some (h j)) : w.ownsRow base T 2 (.slice (some ⟨g, 0, none⟩) n cap) n xs := by
 obtain ⟨c, h1, h2, h3⟩ := hr
 refine ⟨hx, .inr ⟨g, cap, c, rfl, hb, h1, hn, hc, h2, ?_⟩⟩
 apply List.ext_getElem?
 intro j
 by_cases hj : j < n * 2
 ·rw [List.getElem?_take, if_pos hj, hq j hj]
  have := h3 j (by omega)
  simpa using this
 ·rw [List.getElem?_take, if_neg hj, List.getElem?_eq_none (by omega)]
theorem nH {cur : Array Value} {j : Nat} (hj : j < cur.size) : cur[j]? = some (cur.getD j undef) := by
 rw [Array.getElem?_eq_getElem hj, Array.getD_eq_getD_getElem?, Array.getElem?_eq_getElem hj]; rfl
theorem qH {L : List (Int × Int)} {i q : Nat} (hi : i < L.length) (v : Int × Int) : (L.set i v).getD q (0, 0) = if i = q then v else L.getD q (0, 0) := by
 rw [List.getD_eq_getElem?_getD, List.getElem?_set, List.getD_eq_getElem?_getD]
 by_cases e : i = q
 ·subst e; simp [hi]
 ·simp [e]
theorem oc {w : World} {base : Nat} {T : TypeId} {a : Option Addr} {c : Nat} {L : List (Int × Int)} (h : w.ownsRow base T 2 (.slice a L.length c) L.length (prs L)) {i : Nat} (hi : i < L.length) :
 ∃ g, a = some ⟨g, 0, none⟩ ∧ base ≤ g ∧ g < w.heap.size ∧ w.cell? ⟨g, i * 2 + 1, none⟩ = some (.int .i64 (L.getD i (0, 0)).2) ∧ w.frozen? ⟨g, i * 2 + 1, none⟩ = false ∧ ∀ z : Int, (w.setCell ⟨g, i * 2 + 1, none⟩ (.int .i64 z)).ownsRow base T 2 (.slice a L.length c) L.length (prs (L.set i ((L.getD i (0, 0)).1, z))) := by
 rcases h.2 with ⟨_, h0⟩ | ⟨g, cap, cur, he, hb, hg, hn, hc, hs, ht⟩
 ·omega
 simp at he
 obtain ⟨rfl, rfl⟩ := he
 have hr : w.rowIs g T (c * 2) (fun j => cur.getD j undef) := ⟨cur, hg, hs, fun j hj => nH (by omega)⟩
 have hx : ∀ j, j < L.length * 2 → (prs L)[j]? = some (cur.getD j undef) := fun j hj => by
  rw [← ht, List.getElem?_take, if_pos hj]
  have := nH (cur := cur) (j := j) (by omega)
  simpa using this
 refine ⟨g, rfl, hb, hr.lt, ?_, hr.frozen _, fun z => ?_⟩
 ·rw [hr.cell (by omega), ← hx (i * 2 + 1) (by omega)]
  exact (jk L i hi).2
 ·refine mH (hr.set (i * 2 + 1) (.int .i64 z)) hb hn hc (by rw [mL]; simp) fun j hj => ?_
  obtain ⟨q, hq⟩ : ∃ q, j = q * 2 ∨ j = q * 2 + 1 := ⟨j / 2, by omega⟩
  have hql : q < L.length := by omega
  have hp := jk (L.set i ((L.getD i (0, 0)).1, z)) q (by simpa using hql)
  have hp0 := jk L q hql
  have hxj := hx j hj
  rw [qH hi] at hp
  rcases hq with rfl | rfl
  ·have e3 : ¬ q * 2 = i * 2 + 1 := by omega
   simp only [if_neg e3]
   rw [← hxj, hp.1, hp0.1]
   by_cases e4 : i = q
   ·rw [if_pos e4, e4]
   ·rw [if_neg e4]
  ·by_cases e4 : i = q
   ·have e3 : q * 2 + 1 = i * 2 + 1 := by omega
    simp only [if_pos e3]
    rw [hp.2, if_pos e4]
   ·have e3 : ¬ q * 2 + 1 = i * 2 + 1 := by omega
    simp only [if_neg e3]
    rw [← hxj, hp.2, hp0.2, if_neg e4]
theorem iB {w : World} {base : Nat} {T : TypeId} {s : Nat} {v : Value} {n : Nat} {xs : List Value} (h : w.ownsRow base T s v n xs) (hn : 0 < n) : ∃ g cap, v = .slice (some ⟨g, 0, none⟩) n cap := by
 rcases h.2 with ⟨_, h⟩ | ⟨g, cap, _, rfl, _⟩
 ·omega
 ·exact ⟨g, cap, rfl⟩
theorem iz {w : World} {b1 b2 s1 s2 n1 n2 : Nat} {T1 T2 : TypeId} {v1 v2 : Value} {x1 x2 : List Value} (h1 : w.ownsRow b1 T1 s1 v1 n1 x1) (h2 : w.ownsRow b2 T2 s2 v2 n2 x2) (hT : T1 ≠ T2) : ∀ g, v1.ownBlock = some g → v2.ownBlock ≠ some g := by
 intro g e1 e2
 rcases h1.2 with ⟨rfl, _⟩ | ⟨g1, c1, cur1, rfl, _, k1, _⟩
 ·simp [Value.ownBlock] at e1
 ·rcases h2.2 with ⟨rfl, _⟩ | ⟨g2, c2, cur2, rfl, _, k2, _⟩
  ·simp [Value.ownBlock] at e2
  ·simp [Value.ownBlock] at e1 e2
   subst e1; subst e2
   rw [k1] at k2
   simp at k2
   exact hT k2.2
theorem lj {w w' : World} {b1 b2 s1 s2 n1 n2 : Nat} {T1 T2 : TypeId} {v1 v2 : Value} {x1 x2 : List Value} (h1 : w.ownsRow b1 T1 s1 v1 n1 x1) (h2 : w.ownsRow b2 T2 s2 v2 n2 x2) (hT : T1 ≠ T2) (hg : w.grownBy w' v2.ownBlock) : w'.ownsRow b1 T1 s1 v1 n1 x1 :=
 h1.kept hg (by
  cases hv : v1.ownBlock with
  | none => exact .inl rfl
  | some g => exact .inr (fun he => iz h1 h2 hT g hv he.symm))
theorem ek {x : Int} (h1 : -9223372036854775808 ≤ x) (h2 : x ≤ 9223372036854775807) : IntKind.i64.wrap x = x := by
 unfold IntKind.wrap; simp [IntKind.bits, IntKind.signed]; omega
theorem cY {B : Nat} {a w : World} (h : Below B a w) (n : Nat) : Below B a (w.drewN n) := h.trans ⟨rfl, rfl, rfl, Nat.le_refl _, fun _ _ => rfl⟩
def rnL (f : Nat → Int × Int) (n : Nat) (k : Int) : List (Int × Int) := if ba f n = true ∧ 1 ≤ k then rns f n k else []
theorem rT {f : Nat → Int × Int} {n : Nat} {k : Int} (h : ba f n = true) (h1 : 1 ≤ k) : rnL f n k = rns f n k := if_pos ⟨h, h1⟩
theorem rnL_f {f : Nat → Int × Int} {n : Nat} {k : Int} (h : ba f n = false) : rnL f n k = [] := if_neg (by simp [h])
theorem rnL_k {f : Nat → Int × Int} {n : Nat} {k : Int} (h : ¬ 1 ≤ k) : rnL f n k = [] := if_neg (fun q => h q.2)
theorem rr (k : Int) (T : List Int) (P : List (Int × Int)) (j : Nat) : (sps k T P j).length ≤ j + 1 := by
 have := jo k (P.take j)
 have h2 : (P.take j).length ≤ j := by simp; omega
 unfold sps
 split <;> simp <;> omega
theorem iv (w : World) : (w.alloc (.cells #[] 47)).ownsRow w.heap.size 47 2 (.slice (some ⟨w.heap.size, 0, none⟩) 0 0) 0 (prs []) := World.ownsRow_made w #[] 0 (Nat.le_refl _) (by simp [maxLen]) (by simp)
theorem qi (L : List (Int × Int)) (a b z : Int) : (L ++ [(a, b)]).set L.length (((L ++ [(a, b)]).getD L.length (0, 0)).1, z) = L ++ [(a, z)] := by simp
theorem nW (L : List (Int × Int)) (a b : Int) : (L ++ [(a, b)]).getD L.length (0, 0) = (a, b) := by simp
theorem jw (a : Option Addr) (n c : Nat) (f : Nat → Int × Int) (k : Int) (w : World) (hm : n ≤ maxLen) (hs : Src w a n f) (h : ba f n = false ∨ ¬ 1 ≤ k) :
 Calls Tryz.prog 140 #[.slice a n c, .int .i64 k] w fun e w' => ∃ v, e = .returned v ∧ w'.ownsRow w.heap.size 47 2 v 0 (prs []) ∧ Below w.heap.size w w' := by
 have B0 := Below.al9 w (.cells #[] 47)
 have O0 := iv w
 have CS := fun (v : World) (hb : Below w.heap.size w v) => aI a n c f v hm (hs.below hb)
 cases hsb : ba f n
 ·go_enter Tryz.func140, Tryz.ntmps140
  go_wp2_with fail
  refine (CS _ B0).mono ?_
  rintro e w1 ⟨rfl, hb⟩
  rw [hsb]
  go_wp2_with fail
  go_ret
  exact ⟨_, rfl, cz O0 hb, B0.trans (hb.mono B0.size)⟩
 ·have hk : k < 1 := by rcases h with h | h; (rw [hsb] at h; cases h); omega
  go_enter Tryz.func140, Tryz.ntmps140
  go_wp2_with fail
  refine (CS _ B0).mono ?_
  rintro e w1 ⟨rfl, hb⟩
  rw [hsb]
  go_wp2_with fail
  go_ret
  exact ⟨_, rfl, cz O0 hb, B0.trans (hb.mono B0.size)⟩
structure SpR (T : List Int) (C : Int → Nat) (k : Int) (SP : Nat → List (Int × Int)) (R : List (Int × Int)) : Prop where
 zero : SP 0 = []
 len : ∀ j, (SP j).length ≤ j + 1
 low : ∀ j, j < T.length → (C (iat T j) : Int) < k → SP (j + 1) = SP j
 on : ∀ j, j + 1 < T.length → ¬ (C (iat T j) : Int) < k → (∃ L a, SP j = L ++ [(a, iat T j - 1)] ∧ SP (j + 1) = L ++ [(a, iat T (j + 1) - 1)]) ∨ ((∀ r, r ∈ SP j → r.2 + 1 < iat T j) ∧ SP (j + 1) = SP j ++ [(iat T j, iat T (j + 1) - 1)])
 last : ∀ j, j ≤ T.length - 1 → ¬ j + 1 < T.length → SP j = R
 lowb : ∀ j, j < T.length → ∀ r, r ∈ SP j → -1000000000001 ≤ r.2
 small : ∀ j, j < T.length → -1000000000000 ≤ iat T j ∧ iat T j ≤ 1000000000001
theorem od {k : Int} : ∀ (P : List (Int × Int)) (s : Bool × Int × List (Int × Int)), (∀ x, x ∈ P → -1000000000000 ≤ x.1) → (∀ r, r ∈ s.2.2 → -1000000000001 ≤ r.2) → ∀ r, r ∈ (P.foldl (bf k) s).2.2 → -1000000000001 ≤ r.2
 | [], s, _, h => h
 | x :: P, s, hP, h => by
  refine od P (bf k s x) (fun y hy => hP y (List.mem_cons_of_mem _ hy)) ?_
  have hx := hP x List.mem_cons_self
  unfold bf
  split
  ·exact h
  ·split
   ·intro r hr
    simp only [List.mem_append, List.mem_singleton] at hr
    rcases hr with hr | rfl
    ·exact h r hr
    ·show -1000000000001 ≤ x.1 - 1
     omega
   ·exact h
theorem qK {f : Nat → Int × Int} {n : Nat} {k : Int} (ho : be f n = true) (j : Nat) (hj : j < (trn f (2 * n)).length) : ∀ r, r ∈ sps k (trn f (2 * n)) (trs f n) j → -1000000000001 ≤ r.2 := by
 have hin : ∀ x, x ∈ trs f n → -1000000000000 ≤ x.1 := fun x hx => by
  obtain ⟨p, hp, rfl⟩ := List.mem_map.1 hx
  exact (eL ho hp).1
 have hl := od (k := k) ((trs f n).take j) (false, 0, []) (fun x hx => hin x (List.mem_of_mem_take hx)) (fun r hr => by simp at hr)
 have ht := (eL ho (x := (trn f (2 * n)).getD j 0) (by rw [List.getD_eq_getElem?_getD, List.getElem?_eq_getElem hj]; exact List.getElem_mem hj)).1
 intro r hr
 unfold sps at hr
 split at hr
 ·simp only [List.mem_append, List.mem_singleton] at hr
  rcases hr with hr | rfl
  ·exact hl r hr
  ·show -1000000000001 ≤ (trn f (2 * n)).getD j 0 - 1
   omega
 ·exact hl r hr
theorem sF {f : Nat → Int × Int} {n : Nat} {k : Int} (ho : be f n = true) (h1 : 1 ≤ k) : SpR (trn f (2 * n)) (cov f n) k (sps k (trn f (2 * n)) (trs f n)) (rns f n k) where
 zero := lK
 len := fun j => rr _ _ _ j
 low := fun j hj hc => rt hj hc
 on := fun j hj hc => sG hj hc
 last := fun j hj hn => by
  by_cases h0 : trn f (2 * n) = []
  ·rw [h0] at hj; simp at hj; subst hj; rw [ly h0]; exact lK
  ·have := List.length_pos_iff.2 h0
   exact rq h1 (by omega)
 lowb := fun j hj => qK ho j hj
 small := fun j hj => eL ho (by unfold iat; rw [List.getD_eq_getElem?_getD, List.getElem?_eq_getElem hj]; exact List.getElem_mem hj)
theorem hX (a : Option Addr) (n c : Nat) (f : Nat → Int × Int) (k : Int) (w : World) (hm : n ≤ maxLen) (hs : Src w a n f) (hsb : ba f n = true) (h1 : 1 ≤ k) :
 Calls Tryz.prog 140 #[.slice a n c, .int .i64 k] w fun e w' => ∃ v, e = .returned v ∧ w'.ownsRow w.heap.size 47 2 v (rns f n k).length (prs (rns f n k)) ∧ Below w.heap.size w w' := by
 obtain ⟨i0, hi, hz0, hz1, hz2⟩ := info_parts kI
 have B0 := Below.al9 w (.cells #[] 47)
 have O0 := iv w
 have HS : Hid (Src w a n f) := hs
 have ⟨hn, ho⟩ := bC hsb
 have CS := fun (v : World) (hb : Below w.heap.size w v) => aI a n c f v hm (HS.out.below hb)
 have CT := fun (v : World) (hb : Below w.heap.size w v) => pi a n c f v hn ho (HS.out.below hb)
 have CC := fun (v : World) (t : Int) (hb : Below w.heap.size w v) => lD a n c f t v hm (HS.out.below hb)
 simp only [hsb, rE hsb] at CS CC
 have hd : decide (k < 1) = false := by simp; omega
 have HR : Hid (SpR (trn f (2 * n)) (cov f n) k (sps k (trn f (2 * n)) (trs f n)) (rns f n k)) := sF ho h1
 have hTl := dH f (2 * n)
 clear hs ho hsb
 generalize sps k (trn f (2 * n)) (trs f n) = SP at *
 generalize rns f n k = R at *
 generalize cov f n = C at *
 unfold Tn at CT
 generalize trn f (2 * n) = T at *
 go_enter Tryz.func140, Tryz.ntmps140
 go_wp2_with fail
 refine (CS _ B0).mono ?_
 rintro e w1 ⟨rfl, hb⟩
 have O1 := cz O0 hb
 have B1 := B0.trans (hb.mono B0.size)
 clear hb O0 B0 CS
 go_wp2_with fail
 refine (CT _ B1).mono ?_
 rintro e w2 ⟨v6, rfl, ⟨g, cap, rfl, OT⟩, hb⟩
 have O2 := cz O1 hb
 have B2 := B1.trans (hb.mono B1.size)
 clear hb O1 B1 CT
 have O2' : w2.ownsRow w.heap.size 47 2 (.slice (some ⟨w.heap.size, 0, none⟩) 0 0) (SP 0).length (prs (SP 0)) := by rw [HR.out.zero]; exact O2
 clear O2
 go_wp2_with fail
 go_loopw [5, 7] (fun v i wr => ∃ j : Nat, j ≤ T.length - 1 ∧ i = .int .i64 j ∧ wr.ownsRow w.heap.size 47 2 v (SP j).length (prs (SP j)) ∧ wr.ownsRow w1.heap.size 3 1 (.slice (some ⟨g, 0, none⟩) T.length cap) T.length (itL T) ∧ Below w.heap.size w wr) (fun _ i _ => T.length - (intOf i).toNat)
 case atStart => exact ⟨0, Nat.zero_le _, rfl, O2', OT, B2⟩
 case round =>
  obtain ⟨j, hj, rfl, OW, OT', B⟩ := hrel
  clear O2' OT B2
  by_cases hlt : j + 1 < T.length
  ·have hli : (j : Int) + 1 < (T.length : Int) := by omega
   have hli0 : (j : Int) < (T.length : Int) := by omega
   have c0 := aL OT' (i := j) (by omega)
   have c1 := aL OT' (i := j + 1) hlt
   have hsm0 := HR.out.small j (by omega)
   have hsm1 := HR.out.small (j + 1) hlt
   have hspl := HR.out.len j
   go_wp2_with fail
   refine (CC _ _ B).mono ?_
   rintro e w2 ⟨rfl, hb⟩
   have OW2 := cz OW hb
   have OT2 := cz OT' hb
   have B2 := B.trans (hb.mono B.size)
   clear hb OW OT' B c0 c1
   have c0 := aL OT2 (i := j) (by omega)
   have c1 := aL OT2 (i := j + 1) hlt
   by_cases hlow : (C (iat T j) : Int) < k
   ·have E := HR.out.low j (by omega) hlow
    go_wp2_with fail
    go_roundw
    case rel => exact ⟨j + 1, by omega, by go_num, by rw [E]; exact OW2, OT2, B2⟩
    case measure => simp [intOf]; omega
   ·have hdl : decide ((C (iat T j) : Int) < k) = false := by simpa using hlow
    have HON := HR.out.on j hlt hlow
    clear hlow
    generalize hx0 : iat T j = x0 at *
    generalize hx1 : iat T (j + 1) = x1 at *
    have HX0 : Hid (iat T j = x0) := hx0
    have HX1 : Hid (iat T (j + 1) = x1) := hx1
    clear hx0 hx1
    rcases HON with ⟨L, aa, E1, E2⟩ | ⟨hall, E2⟩
    ·have OW3 : w2.ownsRow w.heap.size 47 2 u5 (L ++ [(aa, x0 - 1)]).length (prs (L ++ [(aa, x0 - 1)])) := by rw [← E1]; exact OW2
     have HL : Hid (SP j = L ++ [(aa, x0 - 1)]) := E1
     clear OW2 E1
     rw [HL.out, List.length_append] at hspl
     obtain ⟨g2, cap2, rfl⟩ := iB OW3 (by simp)
     obtain ⟨g3, hg3, hgb, hgl, d1, df, hput⟩ := oc OW3 (i := L.length) (by simp)
     simp only [Option.some.injEq, Addr.mk.injEq, and_true] at hg3
     subst hg3
     rw [nW] at d1
     have hput1 := hput (x1 - 1)
     rw [qi] at hput1
     have E3 : (L ++ [(aa, x0 - 1)]).length = L.length + 1 := by simp
     rw [E3] at hput1 OW3
     (try rw [E3])
     have hput2 : (w2.setCell ⟨g2, L.length * 2 + 1, none⟩ (.int .i64 (x1 - 1))).ownsRow w.heap.size 47 2 (.slice (some ⟨g2, 0, none⟩) (L.length + 1) cap2) (SP (j + 1)).length (prs (SP (j + 1))) := by rw [E2]; simpa using hput1
     have OT3 := fy OT2 (k := g2) (fun q hq e => iz OT2 OW3 (by decide) q hq (by rw [e]; rfl)) (L.length * 2 + 1) (.int .i64 (x1 - 1))
     have B3 := B2.setCell (p := ⟨g2, L.length * 2 + 1, none⟩) hgb (.int .i64 (x1 - 1))
     clear hput hput1 E2 OW3 HL E3
     go_wp2_with fail
     go_quiet (fail)
     go_wp2
     go_roundw
     case rel => exact ⟨j + 1, by omega, by go_num, hput2, OT3, (cY B2 nq).setCell (p := ⟨g2, L.length * 2 + 1, none⟩) hgb (.int .i64 (x1 - 1))⟩
     case measure => simp [intOf]; omega
    ·rcases List.eq_nil_or_concat (SP j) with hSP | ⟨L, q, hSP⟩
     ·have hl0 : (SP j).length = 0 := by rw [hSP]; rfl
      obtain ⟨a5, c5, rfl⟩ : ∃ a5 c5, u5 = .slice a5 0 c5 := by
       obtain ⟨a5, c5, h5, _⟩ := fz OW2
       exact ⟨a5, c5, by rw [h5, hl0]⟩
      clear hall hl0 hSP
      go_wp2_with fail
      go_quiet (fail)
      go_wp2_with fail
      clear c0 c1
      replace B2 := cY B2 nq
      (have OT2 : (w2.drewN nq).ownsRow w1.heap.size 3 1 (.slice (some ⟨g, 0, none⟩) T.length cap) T.length (itL T) := OT2)
      (have OW2 : (w2.drewN nq).ownsRow w.heap.size 47 2 (.slice a5 0 c5) (SP j).length (prs (SP j)) := OW2)
      generalize w2.drewN nq = w2 at *
      have c0 := aL OT2 (i := j) (by omega)
      have c1 := aL OT2 (i := j + 1) hlt
      rw [HX0.out] at c0
      rw [HX1.out] at c1
      have wj1 : IntKind.i64.wrap ((j : Int) + 1) = (j : Int) + 1 := ek (by omega) (by omega)
      have hp1 : 0 ≤ (j : Int) + 1 := by omega
      have tj1 : ((j : Int) + 1).toNat = j + 1 := by omega
      have wx1 : IntKind.i64.wrap (x1 - 1) = x1 - 1 := ek (by omega) (by omega)

      refine wp_region_held_drew (S := (fun w' => w'.cell? ⟨g, j, none⟩ = some (.int .i64 x0) ∧ w'.cell? ⟨g, j + 1, none⟩ = some (.int .i64 x1))) (by kernel_rfl) ?_ (fun hHeld => ?_)
      ·simp (maxDischargeDepth := 6) [go_sem, *]
      replace OT2 := OT2
      replace B2 := B2.drew
      clear c0 c1
      (have OT2 : w2.drew.ownsRow w1.heap.size 3 1 (.slice (some ⟨g, 0, none⟩) T.length cap) T.length (itL T) := OT2)
      (have OW2 : w2.drew.ownsRow w.heap.size 47 2 (.slice a5 0 c5) (SP j).length (prs (SP j)) := OW2)
      generalize w2.drew = w2 at *
      have c0 := aL OT2 (i := j) (by omega)
      have c1 := aL OT2 (i := j + 1) hlt
      rw [HX0.out] at c0
      rw [HX1.out] at c1
      refine zT8 0 ?_
      refine zT4 8 ?_
      refine zQ 12 fun K hK => ?_
      go_simp
      (have O4 := World.ownsRow.alloc OW2 (.cells #[.int .i64 x0, .int .i64 (x1 - 1)] 47)); (have T4 := World.ownsRow.alloc OT2 (.cells #[.int .i64 x0, .int .i64 (x1 - 1)] 47)); (have B4 := B2.alloc B2.size (.cells #[.int .i64 x0, .int .i64 (x1 - 1)] 47)); (have NA := jh w2 x0 (x1 - 1) 47); (have hsz : w.heap.size ≤ (w2.alloc (.cells #[.int .i64 x0, .int .i64 (x1 - 1)] 47)).heap.size := B4.size); (have AD : w2.heap.size < (w2.alloc (.cells #[.int .i64 x0, .int .i64 (x1 - 1)] 47)).heap.size := by simp); (generalize (w2.alloc (.cells #[.int .i64 x0, .int .i64 (x1 - 1)] 47)) = w4 at *); (have c0 := aL T4 (i := j) (by omega)); (have c1 := aL T4 (i := j + 1) (by omega)); (rw [HX0.out] at c0); (rw [HX1.out] at c1)
      refine hK.out _ _ ?_ (fun hHeld => ?_)
      ·simp (maxDischargeDepth := 6) [go_sem, *]
      clear hK K
      (try simp only [zA])
      refine zQ 13 fun K hK => ?_
      rw [if_pos (by rfl)]; refine wp_append_own _ _ _ 124 rfl w.heap.size 47 i0 (.agg #[.int .i64 0, .int .i64 0]) 2 16 Tryz.underlying124 hi hz0 hz1 hz2 rfl (by decide) _ _ _ rfl O4 ⟨w2.heap.size, 0, none⟩ 1 1 [.int .i64 x0, .int .i64 (x1 - 1)] rfl rfl (fun j' u hj' => NA j' u hj') (by intro u hu; simp at hu; rcases hu with rfl | rfl <;> rfl) (by unfold maxLen; omega) (by omega) hsz ?_; intro v' w9 hown' hgrow _; (have B9 := B4.trans (aN O4 hgrow hsz)); (have T9 := lj T4 O4 (by decide) hgrow); (have R9 : w9.ownsRow w.heap.size 47 2 v' (SP j ++ [(x0, x1 - 1)]).length (prs (SP j ++ [(x0, x1 - 1)])) := by rw [jj]; simpa using hown'); (have d0 := aL T9 (i := j) (by omega)); (have d1 := aL T9 (i := j + 1) (by omega)); (rw [HX0.out] at d0); (rw [HX1.out] at d1); clear hown' hgrow O4 T4 B4 NA hsz c0 c1
      refine hK.out _ _ ?_ (fun hHeld => ?_)
      ·simp (maxDischargeDepth := 6) [go_sem, *]
      clear hK K
      (try simp only [zA])
      refine zTk 14 ?_
      refine wpAnyH_done (by kernel_rfl) ?_ _
      go_wp2
      go_roundw
      case rel => exact ⟨j + 1, by omega, by go_num, by rw [E2]; exact R9, T9, B9⟩
      case measure => simp [intOf]; omega
     ·have hq := hall q (by rw [hSP]; simp)
      have hqb := HR.out.lowb j (by omega) q (by rw [hSP]; simp)
      obtain ⟨q1, q2⟩ := q
      have hlq : (SP j).length = L.length + 1 := by rw [hSP]; simp
      have OW3 : w2.ownsRow w.heap.size 47 2 u5 (L ++ [(q1, q2)]).length (prs (L ++ [(q1, q2)])) := by rw [← List.concat_eq_append, ← hSP]; exact OW2
      obtain ⟨g2, cap2, rfl⟩ := iB OW3 (by simp)
      obtain ⟨g3, hg3, hgb, hgl, d1, df, -⟩ := oc OW3 (i := L.length) (by simp)
      simp only [Option.some.injEq, Addr.mk.injEq, and_true] at hg3
      subst hg3
      rw [nW] at d1
      have E3 : (L ++ [(q1, q2)]).length = L.length + 1 := by simp
      rw [E3] at OW2
      (try rw [E3])
      have hneq : (q2 + 1 == x0) = false := by rw [beq_eq_false_iff_ne]; simp at hq; omega
      simp only at hq hqb
      clear hall hSP OW3 E3 df
      go_wp2_with fail
      go_quiet (fail)
      go_wp2_with fail
      clear c0 c1
      replace B2 := cY B2 nq
      (have OT2 : (w2.drewN nq).ownsRow w1.heap.size 3 1 (.slice (some ⟨g, 0, none⟩) T.length cap) T.length (itL T) := OT2)
      (have OW2 : (w2.drewN nq).ownsRow w.heap.size 47 2 (.slice (some ⟨g2, 0, none⟩) (L.length + 1) cap2) (SP j).length (prs (SP j)) := OW2)
      generalize w2.drewN nq = w2 at *
      have c0 := aL OT2 (i := j) (by omega)
      have c1 := aL OT2 (i := j + 1) hlt
      rw [HX0.out] at c0
      rw [HX1.out] at c1
      have wj1 : IntKind.i64.wrap ((j : Int) + 1) = (j : Int) + 1 := ek (by omega) (by omega)
      have hp1 : 0 ≤ (j : Int) + 1 := by omega
      have tj1 : ((j : Int) + 1).toNat = j + 1 := by omega
      have wx1 : IntKind.i64.wrap (x1 - 1) = x1 - 1 := ek (by omega) (by omega)

      refine wp_region_held_drew (S := (fun w' => w'.cell? ⟨g, j, none⟩ = some (.int .i64 x0) ∧ w'.cell? ⟨g, j + 1, none⟩ = some (.int .i64 x1))) (by kernel_rfl) ?_ (fun hHeld => ?_)
      ·simp (maxDischargeDepth := 6) [go_sem, *]
      replace OT2 := OT2
      replace B2 := B2.drew
      clear c0 c1
      (have OT2 : w2.drew.ownsRow w1.heap.size 3 1 (.slice (some ⟨g, 0, none⟩) T.length cap) T.length (itL T) := OT2)
      (have OW2 : w2.drew.ownsRow w.heap.size 47 2 (.slice (some ⟨g2, 0, none⟩) (L.length + 1) cap2) (SP j).length (prs (SP j)) := OW2)
      generalize w2.drew = w2 at *
      have c0 := aL OT2 (i := j) (by omega)
      have c1 := aL OT2 (i := j + 1) hlt
      rw [HX0.out] at c0
      rw [HX1.out] at c1
      refine zT8 0 ?_
      refine zT4 8 ?_
      refine zQ 12 fun K hK => ?_
      go_simp
      (have O4 := World.ownsRow.alloc OW2 (.cells #[.int .i64 x0, .int .i64 (x1 - 1)] 47)); (have T4 := World.ownsRow.alloc OT2 (.cells #[.int .i64 x0, .int .i64 (x1 - 1)] 47)); (have B4 := B2.alloc B2.size (.cells #[.int .i64 x0, .int .i64 (x1 - 1)] 47)); (have NA := jh w2 x0 (x1 - 1) 47); (have hsz : w.heap.size ≤ (w2.alloc (.cells #[.int .i64 x0, .int .i64 (x1 - 1)] 47)).heap.size := B4.size); (have AD : w2.heap.size < (w2.alloc (.cells #[.int .i64 x0, .int .i64 (x1 - 1)] 47)).heap.size := by simp); (generalize (w2.alloc (.cells #[.int .i64 x0, .int .i64 (x1 - 1)] 47)) = w4 at *); (have c0 := aL T4 (i := j) (by omega)); (have c1 := aL T4 (i := j + 1) (by omega)); (rw [HX0.out] at c0); (rw [HX1.out] at c1)
      refine hK.out _ _ ?_ (fun hHeld => ?_)
      ·simp (maxDischargeDepth := 6) [go_sem, *]
      clear hK K
      (try simp only [zA])
      refine zQ 13 fun K hK => ?_
      rw [if_pos (by rfl)]; refine wp_append_own _ _ _ 124 rfl w.heap.size 47 i0 (.agg #[.int .i64 0, .int .i64 0]) 2 16 Tryz.underlying124 hi hz0 hz1 hz2 rfl (by decide) _ _ _ rfl O4 ⟨w2.heap.size, 0, none⟩ 1 1 [.int .i64 x0, .int .i64 (x1 - 1)] rfl rfl (fun j' u hj' => NA j' u hj') (by intro u hu; simp at hu; rcases hu with rfl | rfl <;> rfl) (by unfold maxLen; omega) (by omega) hsz ?_; intro v' w9 hown' hgrow _; (have B9 := B4.trans (aN O4 hgrow hsz)); (have T9 := lj T4 O4 (by decide) hgrow); (have R9 : w9.ownsRow w.heap.size 47 2 v' (SP j ++ [(x0, x1 - 1)]).length (prs (SP j ++ [(x0, x1 - 1)])) := by rw [jj]; simpa using hown'); (have d0 := aL T9 (i := j) (by omega)); (have d1 := aL T9 (i := j + 1) (by omega)); (rw [HX0.out] at d0); (rw [HX1.out] at d1); clear hown' hgrow O4 T4 B4 NA hsz c0 c1
      refine hK.out _ _ ?_ (fun hHeld => ?_)
      ·simp (maxDischargeDepth := 6) [go_sem, *]
      clear hK K
      (try simp only [zA])
      refine zTk 14 ?_
      refine wpAnyH_done (by kernel_rfl) ?_ _
      go_wp2
      go_roundw
      case rel => exact ⟨j + 1, by omega, by go_num, by rw [E2]; exact R9, T9, B9⟩
      case measure => simp [intOf]; omega
  ·have hR := HR.out.last j hj hlt
   have hli : ¬ (j : Int) + 1 < (T.length : Int) := by omega
   have hdl : decide ((j : Int) + 1 < (T.length : Int)) = false := by simpa using hli
   go_wp2_with fail
   go_ret
   exact ⟨_, rfl, by rw [← hR]; exact OW, B⟩
theorem jv (a : Option Addr) (n c : Nat) (f : Nat → Int × Int) (k : Int) (w : World) (hm : n ≤ maxLen) (hs : Src w a n f) :
 Calls Tryz.prog 140 #[.slice a n c, .int .i64 k] w fun e w' => ∃ v, e = .returned v ∧ w'.ownsRow w.heap.size 47 2 v (rnL f n k).length (prs (rnL f n k)) ∧ Below w.heap.size w w' := by
 by_cases h : ba f n = true ∧ 1 ≤ k
 ·rw [rT h.1 h.2]; exact hX a n c f k w hm hs h.1 h.2
 ·have h2 : ba f n = false ∨ ¬ 1 ≤ k := by
   cases hb : ba f n
   ·exact .inl rfl
   ·exact .inr (fun q => h ⟨hb, q⟩)
  have e : rnL f n k = [] := if_neg h
  rw [e]
  exact jw a n c f k w hm hs h2
end Go.Proofs.YtikbjljkakabdaaGreat
