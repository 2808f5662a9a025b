/- ParseOp (the program). -/
import Derived.Test.YtddjiamollfplaaGreatDoorMC0
import Derived.Test.YtddjiamollfplaaGreatDoorMC29
import Derived.Test.YtddjiamollfplaaGreatDoorMC30
namespace Go.Proofs.YtddjiamollfplaaGreatDoor
open Go.RowKit
set_option linter.unusedVariables false

def RwA (w : World) (base : Nat) (p : Option Addr) (n c : Nat) (f : Nat → Int) : Prop := (p = none ∧ n = 0 ∧ c = 0) ∨ ∃ g, p = some ⟨g, 0, none⟩ ∧ base ≤ g ∧ c = n ∧ bA w g 3 n n (itG f)
theorem RwA.lsa {w : World} {base : Nat} {p : Option Addr} {n c : Nat} {f : Nat → Int} (h : RwA w base p n c f) : LsA w base p n c f := by
 rcases h with h | ⟨g, e, hg, rfl, h⟩
 ·exact .inl h
 ·exact .inr ⟨g, e, hg, .inr (h.cs (Nat.le_refl _))⟩
theorem RwA.below {w w' : World} {base : Nat} {p : Option Addr} {n c : Nat} {f : Nat → Int} (h : RwA w base p n c f) (hb : Below w.heap.size w w') : RwA w' base p n c f := by
 rcases h with h | ⟨g, e, hg, hc, h⟩
 ·exact .inl h
 ·exact .inr ⟨g, e, hg, hc, h.below' hb⟩
theorem RwA.low {w : World} {base base' : Nat} {p : Option Addr} {n c : Nat} {f : Nat → Int} (h : RwA w base p n c f) (hb : base' ≤ base) : RwA w base' p n c f := by
 rcases h with h | ⟨g, e, hg, hc, h⟩
 ·exact .inl h
 ·exact .inr ⟨g, e, Nat.le_trans hb hg, hc, h⟩
theorem RwA.but {w : World} {base k : Nat} {p : Option Addr} {n c : Nat} {f : Nat → Int} (us : List Value) (o : Nat) (h : RwA w base p n c f) (hk : k < base) : RwA (ac w k o us) base p n c f := by
 rcases h with h | ⟨g, e, hg, hc, h⟩
 ·exact .inl h
 ·exact .inr ⟨g, e, hg, hc, dN us (by omega) w o () h⟩
theorem dR.below {w w' : World} {ob K : Nat} {p : Option Addr} {n : Nat} (h : dR w ob K p n) (hb : Below w.heap.size w w') : dR w' ob K p n := by
 obtain ⟨h1, h2, h3⟩ := h
 refine ⟨h1.below hb, h2, ?_⟩
 rcases h3 with h3 | ⟨g, e, hne, hr⟩
 ·exact .inl h3
 ·exact .inr ⟨g, e, hne, hr.below' hb⟩
theorem lg (ob : Nat) {K : Nat} (h1 : 1 ≤ K) (h2 : K ≤ 14) {p : Option Addr} {n : Nat} (hp : (p = none ∧ n = 0) ∨ ∃ b off, p = some ⟨b, off, none⟩) : (opA ob p n (K : Int)).length = if K = 1 then 1 + n else cnK (K : Int) := by
 rcases jy h1 h2 with rfl | rfl | rfl | rfl | rfl | rfl | rfl | rfl | rfl | rfl | rfl | rfl | rfl | rfl
 ·rcases hp with ⟨rfl, rfl⟩ | ⟨b, off, rfl⟩
  ·rfl
  ·exact bu ob _ n
 all_goals rfl
theorem mq {K : Nat} (h : K = 1) : opT (K : Int) = false := by subst h; rfl
theorem fX {K m n : Nat} (hn : n = if K = 1 ∧ 2 ≤ m ∧ m ≤ 9 then m - 1 else 0) : mOk K (m + 1) = decide ((if K = 1 then 1 + n else cnK (K : Int)) + (if opT (K : Int) = true then 1 else 0) = m) := by
 by_cases hK : K = 1
 ·rw [mOk, if_pos hK, if_pos hK, mq hK, if_neg (by decide)]
  have e : (2 ≤ m + 1 ∧ m + 1 ≤ 10) ↔ (1 + n + 0 = m) := by
   by_cases hc : K = 1 ∧ 2 ≤ m ∧ m ≤ 9
   ·rw [if_pos hc] at hn; omega
   ·rw [if_neg hc] at hn
    constructor
    ·intro h
     have : m = 1 := by
      rcases Nat.lt_or_ge m 2 with q | q
      ·omega
      ·exact absurd ⟨hK, q, by omega⟩ hc
     omega
    ·intro h; omega
  exact decide_eq_decide.2 e
 ·rw [mOk, if_neg hK, if_neg hK]
  refine decide_eq_decide.2 ?_
  omega
attribute [-go_sem] loadCells storeCells in
set_option maxRecDepth 100000 in
set_option maxHeartbeats 16000000 in
theorem en (s : ByteArray) (w : World) (hm : s.size ≤ maxLen) (hs : 20000 < s.size) :
 Calls Tryz.prog 9 #[.string s] w fun e w' => ∃ p c, e = .returned (.tuple #[.agg (opV (paS s).1 p c), .int .i64 (paS s).2]) ∧ RwA w' w.heap.size p (paS s).1.n c (paS s).1.f ∧ Below w.heap.size w w' := by
 unfold maxLen at hm
 have HPS : Hid (paS s = (bf, 1)) := lj hs
 have hd : (20000 : Int) < (s.size : Int) := by omega
 have B := Below.nw w (.cells #[.int .i64 0, .int .i64 0, .int .i64 0, .int .i64 0, .int .i64 0, .string ⟨#[]⟩, .slice none 0 0] 26)
 have R := Bo.new w #[.int .i64 0, .int .i64 0, .int .i64 0, .int .i64 0, .int .i64 0, .string ⟨#[]⟩, .slice none 0 0] 26
 go_enter Tryz.func9, Tryz.ntmps9
 go_upto_region 1 with fail
 generalize w.alloc (.cells #[.int .i64 0, .int .i64 0, .int .i64 0, .int .i64 0, .int .i64 0, .string ⟨#[]⟩, .slice none 0 0] 26) = v0 at *
 have hst := Bo.store (P := Tryz.prog) (b := 0) [.int .i64 0, .int .i64 0, .int .i64 0, .int .i64 0, .int .i64 0, .string ⟨#[]⟩, .slice none 0 0] 0 0 R rfl (by simp) (be bf none 0)
 replace R : Bo (ac v0 w.heap.size 0 [.int .i64 0, .int .i64 0, .int .i64 0, .int .i64 0, .int .i64 0, .string ⟨#[]⟩, .slice none 0 0]) w.heap.size #[.int .i64 0, .int .i64 0, .int .i64 0, .int .i64 0, .int .i64 0, .string ⟨#[]⟩, .slice none 0 0] := R.putW (U := #[.int .i64 0, .int .i64 0, .int .i64 0, .int .i64 0, .int .i64 0, .string ⟨#[]⟩, .slice none 0 0]) rfl
 replace B := ai (k := w.heap.size) [.int .i64 0, .int .i64 0, .int .i64 0, .int .i64 0, .int .i64 0, .string ⟨#[]⟩, .slice none 0 0] w v0 0 B (Nat.le_refl _)
 go_wp2_with (rw [hst])
 clear hst
 generalize ac v0 w.heap.size 0 [.int .i64 0, .int .i64 0, .int .i64 0, .int .i64 0, .int .i64 0, .string ⟨#[]⟩, .slice none 0 0] = vz at *
 have hL := R.load (P := Tryz.prog) (n := 7) rfl
 (try simp only [Exit.inBlock, Exit.then])
 have HPA : paS s = (bf, 1) := HPS.out
 exact bodyPost_ret (v := .tuple #[.agg #[.int .i64 0, .int .i64 0, .int .i64 0, .int .i64 0, .int .i64 0, .string ⟨#[]⟩, .slice none 0 0], .int .i64 1]) (by simp [results, Tryz.results9, go_sem]; rw [hL]; rfl) rfl ⟨none, 0, by rw [HPA]; rfl, by rw [HPA]; exact .inl ⟨rfl, rfl, rfl⟩, B⟩
attribute [-go_sem] loadCells storeCells in
set_option maxRecDepth 100000 in
set_option maxHeartbeats 16000000 in
theorem fc (s : ByteArray) (w : World) (EV : VN w) (EO : OpW w) (hs : s.size ≤ 20000) :
 Calls Tryz.prog 9 #[.string s] w fun e w' => ∃ p c, e = .returned (.tuple #[.agg (opV (paS s).1 p c), .int .i64 (paS s).2]) ∧ RwA w' w.heap.size p (paS s).1.n c (paS s).1.f ∧ Below w.heap.size w w' := by
 have HPS : Hid (paS s = paW (wdW s 32)) := jL (by omega)
 have HV : Hid (VN w) := EV
 have HO : Hid (OpW w) := EO
 have hd : ¬ (20000 : Int) < (s.size : Int) := by omega
 clear EV EO
 have B := Below.nw w (.cells #[.int .i64 0, .int .i64 0, .int .i64 0, .int .i64 0, .int .i64 0, .string ⟨#[]⟩, .slice none 0 0] 26)
 have R := Bo.new w #[.int .i64 0, .int .i64 0, .int .i64 0, .int .i64 0, .int .i64 0, .string ⟨#[]⟩, .slice none 0 0] 26
 go_enter Tryz.func9, Tryz.ntmps9
 go_upto_region 1 with fail
 generalize w.alloc (.cells #[.int .i64 0, .int .i64 0, .int .i64 0, .int .i64 0, .int .i64 0, .string ⟨#[]⟩, .slice none 0 0] 26) = v0 at *
 go_wp2_with fail
 refine (fe s v0 hs).mono ?_
 rintro e v1 ⟨u, rfl, OW, hb⟩
 replace B := B.trans (hb.mono B.size)
 replace R := R.below hb
 obtain ⟨hWp, hWl⟩ := my s 32
 have HS2 : Hid (∀ i, ((wdW s 32).getD i ⟨#[]⟩).size ≤ 20000) := fun i => Nat.le_trans (jW (lS s 32) i) hs
 have hw20 : (wdW s 32).length ≤ 20001 := by omega
 have HW20 : Hid ((wdW s 32).length ≤ 20001) := hw20
 clear hw20
 generalize wdW s 32 = W at *
 obtain ⟨g, cap, rfl, hg, hcap, hcells⟩ := eA OW hWp
 have HC : Hid (∀ i, i < W.length → ∀ v, Below v1.heap.size v1 v → v.cell? ⟨g, i, none⟩ = some (.string (W.getD i ⟨#[]⟩))) := fun i hi v hv => by
  have q := hcells i _ (jX hi)
  rw [Nat.zero_add] at q
  rw [hv.cell (p := ⟨g, i, none⟩) hg]
  exact q
 clear hcells OW hb hd
 have SK : Hid (∀ w', Below v1.heap.size v1 w' → (fun w' => w'.cell? ⟨g, 0, none⟩ = some (.string (W.getD 0 ⟨#[]⟩))) w') := fun w' hw => HC.out 0 hWp w' hw
 obtain ⟨m, hm⟩ : ∃ m, W.length = m + 1 := ⟨W.length - 1, by omega⟩
 have HWM : Hid (W.length = m + 1) := hm
 have HCP : Hid (m + 1 ≤ cap) := by (show m + 1 ≤ cap; rw [← hm]; exact hcap)
 have hm2 : m ≤ 20000 := by have := HW20.out; omega
 rw [hm]
 have hcap0 : m + 1 ≤ cap := HCP.out
 clear hm hcap hWp hWl
 have h1c : (1 : Int) ≤ (cap : Int) := by omega
 have h1m : (1 : Int) ≤ (m : Int) + 1 := by omega
 generalize hTT : W.getD 0 ⟨#[]⟩ = T at SK
 have HTT : Hid (W.getD 0 ⟨#[]⟩ = T) := hTT
 clear hTT
 go_upto_region 4 with fail
 refine wp_region_held_drew (S := (fun w' => w'.cell? ⟨g, 0, none⟩ = some (.string T))) (by kernel_rfl) ?_ (fun hHeld => ?_)
 ·first | exact SK.out _ XB | exact SK.out _ zD
 have XB : Below v1.heap.size v1 v1.drew := Below.drew (Below.refl _ _)
 generalize v1.drew = vx at *
 refine zT4 0 ?_
 refine zT2 4 ?_
 refine zTk 6 ?_
 refine wpAnyH_done (by kernel_rfl) ?_ _
 have B1 : Below v1.heap.size v1 vx := XB
 replace B := B.trans (XB.mono B.size)
 replace R := R.below XB
 have hgx : g < vx.heap.size := Nat.lt_of_lt_of_le hg XB.size
 clear XB SK h1c h1m hcap0
 generalize hpB : (if cap = 1 then some (⟨g, 0, none⟩ : Addr) else some ⟨g, 1, none⟩) = pB at *
 have HPBB : Hid ((if cap = 1 then some (⟨g, 0, none⟩ : Addr) else some ⟨g, 1, none⟩) = pB) := hpB
 clear hpB
 have CB := cC vx (HO.out.below B)
 go_wp2_with fail
 refine CB.mono ?_
 rintro e v2 ⟨mb, mn, F, rfl, HM, HFB, hb⟩
 clear CB
 have hgb2 : g < v2.heap.size := Nat.lt_of_lt_of_le hgx hb.size
 replace B := B.trans (hb.mono B.size)
 replace R := R.below hb
 replace B1 := B1.trans (hb.mono B1.size)
 clear hb
 have h0z : T.size ≤ maxLen := by (rw [← HTT.out]; exact Nat.le_trans (HS2.out 0) (by decide))
 have hlk := HM.look2 h0z
 clear HM h0z
 by_cases hK0 : kdL T 14 = 0
 ·have hn : F T = none := HFB.2 _ (iT _ 14 hK0)
  rw [hn] at hlk
  simp only [Option.getD_none, Option.isSome_none] at hlk
  have HPQ : Hid (paS s = (bf, 2)) := by (show paS s = _; rw [HPS.out]; exact lk (by rw [HTT.out]; exact hK0))
  clear hn HFB hK0
  go_wp2_with (rw [hlk])
  clear hlk
  have hst := Bo.store (P := Tryz.prog) (b := 0) [.int .i64 0, .int .i64 0, .int .i64 0, .int .i64 0, .int .i64 0, .string ⟨#[]⟩, .slice none 0 0] 0 0 R rfl (by simp) (be bf none 0)
  replace R : Bo (ac v2 w.heap.size 0 [.int .i64 0, .int .i64 0, .int .i64 0, .int .i64 0, .int .i64 0, .string ⟨#[]⟩, .slice none 0 0]) w.heap.size #[.int .i64 0, .int .i64 0, .int .i64 0, .int .i64 0, .int .i64 0, .string ⟨#[]⟩, .slice none 0 0] := R.putW (U := #[.int .i64 0, .int .i64 0, .int .i64 0, .int .i64 0, .int .i64 0, .string ⟨#[]⟩, .slice none 0 0]) rfl
  replace B := ai (k := w.heap.size) [.int .i64 0, .int .i64 0, .int .i64 0, .int .i64 0, .int .i64 0, .string ⟨#[]⟩, .slice none 0 0] w v2 0 B (Nat.le_refl _)
  go_wp2_with (rw [hst])
  clear hst
  generalize ac v2 w.heap.size 0 [.int .i64 0, .int .i64 0, .int .i64 0, .int .i64 0, .int .i64 0, .string ⟨#[]⟩, .slice none 0 0] = vz at *
  have hL := R.load (P := Tryz.prog) (n := 7) rfl
  (try simp only [Exit.inBlock, Exit.then])
  have HPA : paS s = (bf, 2) := HPQ.out
  exact bodyPost_ret (v := .tuple #[.agg #[.int .i64 0, .int .i64 0, .int .i64 0, .int .i64 0, .int .i64 0, .string ⟨#[]⟩, .slice none 0 0], .int .i64 2]) (by simp [results, Tryz.results9, go_sem]; rw [hL]; rfl) rfl ⟨none, 0, by rw [HPA]; rfl, by rw [HPA]; exact .inl ⟨rfl, rfl, rfl⟩, B⟩
 ·have hT := iR T 14 hK0
  have hKle := iS T 14
  generalize hKE : kdL T 14 = K at hT hKle hK0
  have HKE : Hid (kdL (W.getD 0 ⟨#[]⟩) 14 = K) := by (show kdL (W.getD 0 ⟨#[]⟩) 14 = K; rw [HTT.out]; exact hKE)
  clear hKE
  rw [hT] at hlk ⊢
  clear hT
  have hK1 : 1 ≤ K := by omega
  have hK2 : K ≤ 14 := hKle
  clear hKle
  rw [HFB.1 K hK1 hK2] at hlk
  have HFK : Hid (∀ (p : Option Addr) (n ob : Nat), (p = none ∧ n = 0) ∨ (∃ b off, p = some ⟨b, off, none⟩) → n ≤ 8 → ∃ fid, (fnV K = .func (.func fid) #[] #[] ∧ ∀ (xs : Array Value) (v : World), (callFunc fid xs).run Tryz.prog v = .ok (.enter fid xs) v) ∧ ∀ (w : World), Bo w ob #[.int .i64 (K : Int), .int .i64 0, .int .i64 0, .int .i64 0, .int .i64 0, .string ⟨#[]⟩, .slice p n n] →
   Calls Tryz.prog fid #[.pointer (some ⟨ob, 0, none⟩)] w fun e w' => ∃ u, e = .returned (.agg #[u, opX ob (K : Int)]) ∧ w'.ownsRow w.heap.size 113 1 u (opA ob p n (K : Int)).length (ptR (opA ob p n (K : Int))) ∧ Below w.heap.size w w') := fun p n ob hp hn => dr K hK1 hK2 ob 0 0 0 0 ⟨#[]⟩ p n n hp hn
  simp only [Option.getD_some, Option.isSome_some] at hlk
  clear HFB
  have CK := iU K hK1 hK2 v2 (HO.out.below B)
  generalize fnV K = fv at *
  generalize nmK (K : Int) = nm at *
  go_wp2_with (rw [hlk])
  (try go_simp)
  (try go_wp2_with fail)
  clear hlk
  refine CK.mono ?_
  rintro e v21 ⟨rfl, hb⟩
  clear CK
  have hgb : g < v21.heap.size := Nat.lt_of_lt_of_le hgb2 hb.size
  replace B := B.trans (hb.mono B.size)
  replace R := R.below hb
  replace B1 := B1.trans (hb.mono B1.size)
  clear hb
  have CRM := ig K m (by omega) v21
  go_wp2_with fail
  refine CRM.mono ?_
  rintro e v3 ⟨p, n, rfl, hnm, hp1, hps, hb⟩
  clear CRM
  have hbw : w.heap.size ≤ v21.heap.size := B.size
  have hwb : w.heap.size < v21.heap.size := R.1
  have hb3 := hb.size
  replace B := B.trans (hb.mono B.size)
  replace R := R.below hb
  replace B1 := B1.trans (hb.mono B1.size)
  clear hb
  have HNM : Hid (n = if K = 1 ∧ 2 ≤ m ∧ m ≤ 9 then m - 1 else 0) := hnm
  have hn8 : n ≤ 8 := by rw [hnm]; split <;> omega
  clear hnm
  have HBG : Hid (∀ g, p = some ⟨g, 0, none⟩ → v21.heap.size ≤ g) := fun g' h => by
   rcases hps with ⟨h1, _⟩ | ⟨g2, h1, h2, _⟩
   ·rw [h1] at h; cases h
   ·rw [h1] at h; cases h; exact h2
  generalize v21.heap.size = base at *
  have Q := Bo.new v3 #[.int .i64 0, .int .i64 0, .int .i64 0, .int .i64 0, .int .i64 0, .string ⟨#[]⟩, .slice none 0 0] 26
  have hst : (storeCells ⟨v3.heap.size, 0, none⟩ [.int .i64 (K : Int), .int .i64 0, .int .i64 0, .int .i64 0, .int .i64 0, .string ⟨#[]⟩, .slice p n n] 0).run Tryz.prog (v3.alloc (.cells #[.int .i64 0, .int .i64 0, .int .i64 0, .int .i64 0, .int .i64 0, .string ⟨#[]⟩, .slice none 0 0] 26)) = .ok () (ac (v3.alloc (.cells #[.int .i64 0, .int .i64 0, .int .i64 0, .int .i64 0, .int .i64 0, .string ⟨#[]⟩, .slice none 0 0] 26)) v3.heap.size 0 [.int .i64 (K : Int), .int .i64 0, .int .i64 0, .int .i64 0, .int .i64 0, .string ⟨#[]⟩, .slice p n n]) := Bo.store (P := Tryz.prog) (b := 0) [.int .i64 (K : Int), .int .i64 0, .int .i64 0, .int .i64 0, .int .i64 0, .string ⟨#[]⟩, .slice p n n] 0 0 Q rfl (by simp) (by intro u hu; simp only [List.mem_cons, List.not_mem_nil, or_false] at hu; rcases hu with h | h | h | h | h | h | h <;> (subst h; rfl))
  replace Q : Bo (ac (v3.alloc (.cells #[.int .i64 0, .int .i64 0, .int .i64 0, .int .i64 0, .int .i64 0, .string ⟨#[]⟩, .slice none 0 0] 26)) v3.heap.size 0 [.int .i64 (K : Int), .int .i64 0, .int .i64 0, .int .i64 0, .int .i64 0, .string ⟨#[]⟩, .slice p n n]) v3.heap.size #[.int .i64 (K : Int), .int .i64 0, .int .i64 0, .int .i64 0, .int .i64 0, .string ⟨#[]⟩, .slice p n n] := Q.putW (U := #[.int .i64 (K : Int), .int .i64 0, .int .i64 0, .int .i64 0, .int .i64 0, .string ⟨#[]⟩, .slice p n n]) rfl
  have hb := ai (k := v3.heap.size) [.int .i64 (K : Int), .int .i64 0, .int .i64 0, .int .i64 0, .int .i64 0, .string ⟨#[]⟩, .slice p n n] v3 _ 0 (Below.nw v3 (.cells #[.int .i64 0, .int .i64 0, .int .i64 0, .int .i64 0, .int .i64 0, .string ⟨#[]⟩, .slice none 0 0] 26)) (Nat.le_refl _)
  have HRM0 : Hid (dR (ac (v3.alloc (.cells #[.int .i64 0, .int .i64 0, .int .i64 0, .int .i64 0, .int .i64 0, .string ⟨#[]⟩, .slice none 0 0] 26)) v3.heap.size 0 [.int .i64 (K : Int), .int .i64 0, .int .i64 0, .int .i64 0, .int .i64 0, .string ⟨#[]⟩, .slice p n n]) v3.heap.size K p n) := ⟨Q, hp1, by
   rcases hps with h | ⟨g2, h1, h2, h3⟩
   ·exact .inl h
   ·exact .inr ⟨g2, h1, Nat.ne_of_lt h3.lt, h3.below' hb⟩⟩
  have hpp2 : (p = none ∧ n = 0) ∨ ∃ b off, p = some ⟨b, off, none⟩ := hps.elim .inl (fun ⟨g2, h1, _⟩ => .inr ⟨g2, 0, h1⟩)
  have HKL : Hid ((opA v3.heap.size p n (K : Int)).length = if K = 1 then 1 + n else cnK (K : Int)) := lg v3.heap.size hK1 hK2 hpp2
  obtain ⟨fid, ⟨hfid, hcf⟩, CF⟩ := HFK.out p n v3.heap.size hpp2 hn8
  subst hfid
  clear HFK hps hp1 hpp2
  have hbob : base ≤ v3.heap.size := hb3
  replace B := B.trans (hb.mono B.size)
  replace R := R.below hb
  replace B1 := B1.trans (hb.mono B1.size)
  clear hb
  have hcf2 := hcf #[.pointer (some ⟨v3.heap.size, 0, none⟩)] (ac (v3.alloc (.cells #[.int .i64 0, .int .i64 0, .int .i64 0, .int .i64 0, .int .i64 0, .string ⟨#[]⟩, .slice none 0 0] 26)) v3.heap.size 0 [.int .i64 (K : Int), .int .i64 0, .int .i64 0, .int .i64 0, .int .i64 0, .string ⟨#[]⟩, .slice p n n])
  have CF2 := CF _ Q
  clear hcf CF Q
  go_upto_region 9 with (rw [hst])
  clear hst
  have hb5 : base ≤ (ac (v3.alloc (.cells #[.int .i64 0, .int .i64 0, .int .i64 0, .int .i64 0, .int .i64 0, .string ⟨#[]⟩, .slice none 0 0] 26)) v3.heap.size 0 [.int .i64 (K : Int), .int .i64 0, .int .i64 0, .int .i64 0, .int .i64 0, .string ⟨#[]⟩, .slice p n n]).heap.size := by (rw [aR]; simp; omega)
  generalize ac (v3.alloc (.cells #[.int .i64 0, .int .i64 0, .int .i64 0, .int .i64 0, .int .i64 0, .string ⟨#[]⟩, .slice none 0 0] 26)) v3.heap.size 0 [.int .i64 (K : Int), .int .i64 0, .int .i64 0, .int .i64 0, .int .i64 0, .string ⟨#[]⟩, .slice p n n] = v4 at *
  generalize v3.heap.size = ob at *
  have HRM := HRM0
  clear HRM0 hb3
  generalize hlA : (opA ob p n (K : Int)).length = lA at *
  have HLL : Hid ((opA ob p n (K : Int)).length = lA) := hlA
  clear hlA
  have hl9 : lA ≤ 9 := by rw [HKL.out]; have := mO (K : Int); split <;> omega
  have HLA1 : Hid (lA = if K = 1 then 1 + n else cnK (K : Int)) := HKL.out
  cases hTB : opT (K : Int)
  ·skip
   have hX : opX ob (K : Int) = .pointer none := by rw [iW, hTB]; rfl
   rw [hX] at CF2
   clear hX
   have HLT4 : Hid (∀ (i : Nat) y, (opA ob p n (K : Int))[i]? = some y → y.block < v4.heap.size) := fun i y hy => ((cX hK1 hK2 HRM.out hbob HBG.out).1 i y hy).1
   go_wp2_with (rw [hcf2])
   refine CF2.mono ?_
   rintro e v5 ⟨u5, rfl, OP, hb⟩
   clear CF2 hcf2
   have HZB : Hid (base ≤ v5.heap.size) := Nat.le_trans hb5 hb.size
   replace B := B.trans (hb.mono B.size)
   replace R := R.below hb
   replace B1 := B1.trans (hb.mono B1.size)
   have HRM : Hid (dR v5 ob K p n) := HRM.out.below hb
   clear hb
   obtain ⟨pa, cp, rfl, hpp⟩ := cE (L := opA ob p n (K : Int)) (by rw [HLL.out]; exact OP)
   have hTG := cX hK1 hK2 HRM.out hbob HBG.out
   have HTN : Hid (eV (opA ob p n (K : Int)) ∧ ∀ (j : Nat) x, (opA ob p n (K : Int))[j]? = some x → x ≠ ⟨ob, 5, none⟩) := ⟨hTG.2.1, hTG.2.2.2⟩
   have HPP : Hid (∀ (j : Nat) x, (opA ob p n (K : Int))[j]? = some x → ∃ g, pa = some ⟨g, 0, none⟩ ∧ g < v5.heap.size ∧ (∀ (i : Nat) y, (opA ob p n (K : Int))[i]? = some y → y.block ≠ g) ∧ v5.cell? ⟨g, 0 + j, none⟩ = some (.pointer (some x))) := fun j x hx => by
    obtain ⟨g', h1, h2, h3⟩ := hpp j x hx
    refine ⟨g', h1, h2, fun i y hy => ?_, h3⟩
    have q1 := HLT4.out i y hy
    have q2 := (World.ownsRow.lt OP g' (by rw [h1]; rfl)).1
    omega
   clear hTG hpp OP
   have HLA : Hid ((opA ob p n (K : Int)).length = lA) := HLL.out
   rw [HLA.out]
   have QF := Bo.new v5 #[.slice none 0 0, .pointer none] 50
   have hst : (storeCells ⟨v5.heap.size, 0, none⟩ [.slice pa lA cp, .pointer none] 0).run Tryz.prog (v5.alloc (.cells #[.slice none 0 0, .pointer none] 50)) = .ok () (ac (v5.alloc (.cells #[.slice none 0 0, .pointer none] 50)) v5.heap.size 0 [.slice pa lA cp, .pointer none]) := Bo.store (P := Tryz.prog) (b := 0) [.slice pa lA cp, .pointer none] 0 0 QF rfl (by simp) (by intro u hu; simp only [List.mem_cons, List.not_mem_nil, or_false] at hu; rcases hu with h | h <;> (subst h; rfl))
   replace QF : Bo (ac (v5.alloc (.cells #[.slice none 0 0, .pointer none] 50)) v5.heap.size 0 [.slice pa lA cp, .pointer none]) v5.heap.size #[.slice pa lA cp, .pointer none] := QF.putW (U := #[.slice pa lA cp, .pointer none]) rfl
   have hb := ai (k := v5.heap.size) [.slice pa lA cp, .pointer none] v5 _ 0 (Below.nw v5 (.cells #[.slice none 0 0, .pointer none] 50)) (Nat.le_refl _)
   have HB56 : Hid (Below v5.heap.size v5 (ac (v5.alloc (.cells #[.slice none 0 0, .pointer none] 50)) v5.heap.size 0 [.slice pa lA cp, .pointer none])) := hb
   have HZ56 : Hid (v5.heap.size ≤ (ac (v5.alloc (.cells #[.slice none 0 0, .pointer none] 50)) v5.heap.size 0 [.slice pa lA cp, .pointer none]).heap.size) := hb.size
   replace B := B.trans (hb.mono B.size)
   replace R := R.below hb
   replace B1 := B1.trans (hb.mono B1.size)
   have HRM : Hid (dR _ ob K p n) := HRM.out.below hb
   clear hb
   go_wp2_with (rw [hst])
   clear hst
   generalize ac (v5.alloc (.cells #[.slice none 0 0, .pointer none] 50)) v5.heap.size 0 [.slice pa lA cp, .pointer none] = v6 at *
   generalize v5.heap.size = fb at *
   have hL2 := QF.load (P := Tryz.prog) (n := 2) rfl
   have CM := kZ pa lA cp v6 hl9
   go_wp2_with (rw [hL2])
   (try go_simp)
   (try go_wp2_with fail)
   refine CM.mono ?_
   rintro e v7 ⟨rfl, hb⟩
   clear CM hL2
   have HB67 : Hid (Below v6.heap.size v6 v7) := hb
   replace QF := QF.below hb
   replace B := B.trans (hb.mono B.size)
   replace R := R.below hb
   replace B1 := B1.trans (hb.mono B1.size)
   have HRM : Hid (dR v7 ob K p n) := HRM.out.below hb
   clear hb
   by_cases hq : lA = m
   ·have hqq : ((lA : Int) != (m : Int)) = false := by simp; omega
    have hmk : mOk K W.length = true := by rw [HWM.out, fX HNM.out, ← HKL.out, hTB]; exact decide_eq_true (by simpa using hq)
    have HMK : Hid (mOk K W.length = true ∧ W.length = m + 1 ∧ lA = m) := ⟨hmk, HWM.out, hq⟩
    have hlA1 : 1 ≤ lA := by (rw [HLA1.out]; have := fP (K : Int); split <;> omega)
    have hcap2 : ¬ cap = 1 := by have := HCP.out; omega
    have HPB : Hid (pB = some ⟨g, 1, none⟩) := by (show pB = _; rw [← HPBB.out, if_neg hcap2])
    have hpB := HPB.out
    rw [hpB]
    clear hq hmk hcap2 HPB
    have hL2 := QF.load (P := Tryz.prog) (n := 2) rfl
    have CR := ng W (opA ob p n (K : Int)) pa cp g (cap - 1) base v7 (fun u hu => HV.out.below (B.trans (hu.mono hbw))) (Nat.le_trans HZB.out (Nat.le_trans HZ56.out HB67.out.size)) (by rw [HLA.out]; exact hl9) (fun j x hx => by
     obtain ⟨g', h1, h2, h3, h4⟩ := HPP.out j x hx
     exact ⟨g', h1, Nat.lt_of_lt_of_le h2 (Nat.le_trans HZ56.out HB67.out.size), h3, by rw [HB67.out.cell (p := ⟨g', 0 + j, none⟩) (Nat.lt_of_lt_of_le h2 HZ56.out), HB56.out.cell (p := ⟨g', 0 + j, none⟩) h2]; exact h4⟩) (cX hK1 hK2 HRM.out hbob HBG.out).1 HTN.out.1 hgb ⟨by rw [HMK.out.2.1, HLA.out]; have := HMK.out.2.2; omega, fun i hi => HC.out i hi v7 B1⟩ HS2.out (by have := HW20.out; omega)
    rw [show W.length - 1 = m by have := HMK.out.2.1; omega, HLA.out] at CR
    go_wp2_with (rw [hL2])
    (try go_simp)
    (try go_wp2_with fail)
    refine CR.mono ?_
    rintro e v8 ⟨Z, t, c, hrd, rfl, hbb, hok⟩
    clear CR hL2
    have HRD : Hid (rdF W false (W.length - 1) = (Z, t, c)) := by (show rdF W false (W.length - 1) = _; rw [show W.length - 1 = m by have := HMK.out.2.1; omega]; exact hrd)
    have HOK : Hid _ := hok
    clear hrd hok
    have B8 := B.trans (hbb.mono hbw)
    replace R := R.belowB hbb hwb
    by_cases hc : c = 0
    ·subst hc
     obtain ⟨o1, o2, o4, o5, o6⟩ := HOK.out rfl
     obtain ⟨q1, q2, q3⟩ := jJ (t := t) hK1 hK2 HRM.out hbb.size o2 (o1.trans HLA.out.symm) (fun h => by rw [hTB] at h; cases h) (fun _ => by have q := eE W (W.length - 1); rw [HRD.out] at q; exact q) (fun q hq hn h5 => o4 q hq hn) o5 o6
     have HPO : Hid (paS s = if oB (opZ (K : Int) Z t) = true then (opZ (K : Int) Z t, 0) else (bf, 6)) := by
      show paS s = _
      rw [HPS.out]
      exact iX HKE.out hK0 HMK.out.1 (by rw [hTB]; exact HRD.out)
     have HL : RwA v8 base p n n (opZ (K : Int) Z t).f := by
      rcases q3 with ⟨h1, h2⟩ | ⟨g', h1, h2, h3⟩
      ·exact .inl ⟨h1, h2, h2⟩
      ·exact .inr ⟨g', h1, HBG.out g' h1, rfl, h3⟩
     have hXt : n ≤ maxLen := Nat.le_trans hn8 (by decide)
     have htx : (opZ (K : Int) Z t).tx.size ≤ maxLen := by
      have q := iZ W false HS2.out (W.length - 1)
      rw [HRD.out] at q
      rw [lh]
      exact Nat.le_trans q (by decide)
     have HXN : Hid ((opZ (K : Int) Z t).n = n) := q2
     clear o1 o2 o4 o5 o6 q2 q3 HOK HRD B hbb
     have B := B8
     clear B8
     have hAs : (opV (opZ (K : Int) Z t) p n).size = 7 := rfl
     have HON : Hid (∀ u ∈ (opV (opZ (K : Int) Z t) p n).toList, u.oneCell' = true) := be (opZ (K : Int) Z t) p n
     have O2 : Bo v8 ob (opV (opZ (K : Int) Z t) p n) := q1
     clear q1
     generalize opZ (K : Int) Z t = X at *
     generalize hAA : opV X p n = A at *
     have HA : Hid (A = opV X p n) := hAA.symm
     clear hAA
     have hL2 := O2.load (P := Tryz.prog) hAs
     have COK : Calls Tryz.prog 21 #[.agg A] v8 fun e w' => e = .returned (.bool (oB X)) ∧ Below v8.heap.size v8 w' := by
      rw [HA.out]
      have hs2 : ci v8 p X.n (itG X.f) := by rw [HXN.out]; exact HL.lsa.ls.src
      exact ey X.k X.nd X.tt X.a X.b X.tx p X.n n X.f v8 htx (by rw [HXN.out]; exact hXt) hs2
     go_wp2_with (rw [hL2])
     (try go_simp)
     (try go_wp2_with fail)
     refine COK.mono ?_
     rintro e v9 ⟨rfl, hb⟩
     replace R := R.below hb
     replace O2 := O2.below hb
     replace B := B.trans (hb.mono B.size)
     replace HL := HL.below hb
     clear hb COK hL2
     cases hok : oB X
     ·have HPQ : Hid (paS s = (bf, 6)) := by (show paS s = _; rw [HPO.out, hok]; rfl)
      clear HPO
      have hst := Bo.store (P := Tryz.prog) (b := 0) [.int .i64 0, .int .i64 0, .int .i64 0, .int .i64 0, .int .i64 0, .string ⟨#[]⟩, .slice none 0 0] 0 0 R rfl (by simp) (be bf none 0)
      replace R : Bo (ac v9 w.heap.size 0 [.int .i64 0, .int .i64 0, .int .i64 0, .int .i64 0, .int .i64 0, .string ⟨#[]⟩, .slice none 0 0]) w.heap.size #[.int .i64 0, .int .i64 0, .int .i64 0, .int .i64 0, .int .i64 0, .string ⟨#[]⟩, .slice none 0 0] := R.putW (U := #[.int .i64 0, .int .i64 0, .int .i64 0, .int .i64 0, .int .i64 0, .string ⟨#[]⟩, .slice none 0 0]) rfl
      replace B := ai (k := w.heap.size) [.int .i64 0, .int .i64 0, .int .i64 0, .int .i64 0, .int .i64 0, .string ⟨#[]⟩, .slice none 0 0] w v9 0 B (Nat.le_refl _)
      go_wp2_with (rw [hst])
      clear hst
      generalize ac v9 w.heap.size 0 [.int .i64 0, .int .i64 0, .int .i64 0, .int .i64 0, .int .i64 0, .string ⟨#[]⟩, .slice none 0 0] = vz at *
      have hL := R.load (P := Tryz.prog) (n := 7) rfl
      (try simp only [Exit.inBlock, Exit.then])
      have HPA : paS s = (bf, 6) := HPQ.out
      exact bodyPost_ret (v := .tuple #[.agg #[.int .i64 0, .int .i64 0, .int .i64 0, .int .i64 0, .int .i64 0, .string ⟨#[]⟩, .slice none 0 0], .int .i64 6]) (by simp [results, Tryz.results9, go_sem]; rw [hL]; rfl) rfl ⟨none, 0, by rw [HPA]; rfl, by rw [HPA]; exact .inl ⟨rfl, rfl, rfl⟩, B⟩
     ·have HPQ : Hid (paS s = (X, 0)) := by (show paS s = _; rw [HPO.out, hok]; rfl)
      clear HPO
      have hL3 := O2.load (P := Tryz.prog) hAs
      have hst := Bo.store (P := Tryz.prog) (b := 0) A.toList 0 0 R rfl (by simp [hAs]) HON.out
      replace R : Bo (ac v9 w.heap.size 0 A.toList) w.heap.size A := R.putW (U := A) (by rw [hAs]; rfl)
      replace B := ai (k := w.heap.size) A.toList w v9 0 B (Nat.le_refl _)
      replace HL : RwA (ac v9 w.heap.size 0 A.toList) base p n n X.f := HL.but A.toList 0 hwb
      clear O2
      go_wp2_with (first | rw [hL3] | rw [hst])
      clear hL3 hst
      generalize ac v9 w.heap.size 0 A.toList = vz at *
      have hL := R.load (P := Tryz.prog) hAs
      (try simp only [Exit.inBlock, Exit.then])
      exact bodyPost_ret (v := .tuple #[.agg A, .int .i64 0]) (by simp [results, Tryz.results9, go_sem]; rw [hL]; rfl) rfl ⟨p, n, by rw [HPQ.out, HA.out], by rw [HPQ.out]; show RwA vz w.heap.size p X.n n X.f; rw [HXN.out]; exact HL.low hbw, B⟩
    ·have HPQ : Hid (paS s = (bf, c)) := by
      show paS s = _
      rw [HPS.out, jM HKE.out hK0 HMK.out.1 (by rw [hTB, HRD.out]; exact hc), hTB, HRD.out]
     have hcc : (c != 0) = true := by simp [hc]
     clear HOK HRD B hbb hc
     have B := B8
     clear B8
     have hst := Bo.store (P := Tryz.prog) (b := 0) [.int .i64 0, .int .i64 0, .int .i64 0, .int .i64 0, .int .i64 0, .string ⟨#[]⟩, .slice none 0 0] 0 0 R rfl (by simp) (be bf none 0)
     replace R : Bo (ac v8 w.heap.size 0 [.int .i64 0, .int .i64 0, .int .i64 0, .int .i64 0, .int .i64 0, .string ⟨#[]⟩, .slice none 0 0]) w.heap.size #[.int .i64 0, .int .i64 0, .int .i64 0, .int .i64 0, .int .i64 0, .string ⟨#[]⟩, .slice none 0 0] := R.putW (U := #[.int .i64 0, .int .i64 0, .int .i64 0, .int .i64 0, .int .i64 0, .string ⟨#[]⟩, .slice none 0 0]) rfl
     replace B := ai (k := w.heap.size) [.int .i64 0, .int .i64 0, .int .i64 0, .int .i64 0, .int .i64 0, .string ⟨#[]⟩, .slice none 0 0] w v8 0 B (Nat.le_refl _)
     go_wp2_with (rw [hst])
     clear hst
     generalize ac v8 w.heap.size 0 [.int .i64 0, .int .i64 0, .int .i64 0, .int .i64 0, .int .i64 0, .string ⟨#[]⟩, .slice none 0 0] = vz at *
     have hL := R.load (P := Tryz.prog) (n := 7) rfl
     (try simp only [Exit.inBlock, Exit.then])
     have HPA : paS s = (bf, c) := HPQ.out
     exact bodyPost_ret (v := .tuple #[.agg #[.int .i64 0, .int .i64 0, .int .i64 0, .int .i64 0, .int .i64 0, .string ⟨#[]⟩, .slice none 0 0], .int .i64 c]) (by simp [results, Tryz.results9, go_sem]; rw [hL]; rfl) rfl ⟨none, 0, by rw [HPA]; rfl, by rw [HPA]; exact .inl ⟨rfl, rfl, rfl⟩, B⟩
   ·have hqq : ((lA : Int) != (m : Int)) = true := by simp; omega
    have HPQ : Hid (paS s = (bf, 3)) := by
     show paS s = _
     rw [HPS.out]
     exact g7 HKE.out hK0 (by rw [HWM.out, fX HNM.out, ← HKL.out, hTB]; exact decide_eq_false (by simpa using hq))
    clear hq
    have hst := Bo.store (P := Tryz.prog) (b := 0) [.int .i64 0, .int .i64 0, .int .i64 0, .int .i64 0, .int .i64 0, .string ⟨#[]⟩, .slice none 0 0] 0 0 R rfl (by simp) (be bf none 0)
    replace R : Bo (ac v7 w.heap.size 0 [.int .i64 0, .int .i64 0, .int .i64 0, .int .i64 0, .int .i64 0, .string ⟨#[]⟩, .slice none 0 0]) w.heap.size #[.int .i64 0, .int .i64 0, .int .i64 0, .int .i64 0, .int .i64 0, .string ⟨#[]⟩, .slice none 0 0] := R.putW (U := #[.int .i64 0, .int .i64 0, .int .i64 0, .int .i64 0, .int .i64 0, .string ⟨#[]⟩, .slice none 0 0]) rfl
    replace B := ai (k := w.heap.size) [.int .i64 0, .int .i64 0, .int .i64 0, .int .i64 0, .int .i64 0, .string ⟨#[]⟩, .slice none 0 0] w v7 0 B (Nat.le_refl _)
    go_wp2_with (rw [hst])
    clear hst
    generalize ac v7 w.heap.size 0 [.int .i64 0, .int .i64 0, .int .i64 0, .int .i64 0, .int .i64 0, .string ⟨#[]⟩, .slice none 0 0] = vz at *
    have hL := R.load (P := Tryz.prog) (n := 7) rfl
    (try simp only [Exit.inBlock, Exit.then])
    have HPA : paS s = (bf, 3) := HPQ.out
    exact bodyPost_ret (v := .tuple #[.agg #[.int .i64 0, .int .i64 0, .int .i64 0, .int .i64 0, .int .i64 0, .string ⟨#[]⟩, .slice none 0 0], .int .i64 3]) (by simp [results, Tryz.results9, go_sem]; rw [hL]; rfl) rfl ⟨none, 0, by rw [HPA]; rfl, by rw [HPA]; exact .inl ⟨rfl, rfl, rfl⟩, B⟩
  ·skip
   have hX : opX ob (K : Int) = .pointer (some ⟨ob, 5, none⟩) := by rw [iW, hTB]; rfl
   rw [hX] at CF2
   clear hX
   have HLT4 : Hid (∀ (i : Nat) y, (opA ob p n (K : Int))[i]? = some y → y.block < v4.heap.size) := fun i y hy => ((cX hK1 hK2 HRM.out hbob HBG.out).1 i y hy).1
   go_wp2_with (rw [hcf2])
   refine CF2.mono ?_
   rintro e v5 ⟨u5, rfl, OP, hb⟩
   clear CF2 hcf2
   have HZB : Hid (base ≤ v5.heap.size) := Nat.le_trans hb5 hb.size
   replace B := B.trans (hb.mono B.size)
   replace R := R.below hb
   replace B1 := B1.trans (hb.mono B1.size)
   have HRM : Hid (dR v5 ob K p n) := HRM.out.below hb
   clear hb
   obtain ⟨pa, cp, rfl, hpp⟩ := cE (L := opA ob p n (K : Int)) (by rw [HLL.out]; exact OP)
   have hTG := cX hK1 hK2 HRM.out hbob HBG.out
   have HTN : Hid (eV (opA ob p n (K : Int)) ∧ ∀ (j : Nat) x, (opA ob p n (K : Int))[j]? = some x → x ≠ ⟨ob, 5, none⟩) := ⟨hTG.2.1, hTG.2.2.2⟩
   have HPP : Hid (∀ (j : Nat) x, (opA ob p n (K : Int))[j]? = some x → ∃ g, pa = some ⟨g, 0, none⟩ ∧ g < v5.heap.size ∧ (∀ (i : Nat) y, (opA ob p n (K : Int))[i]? = some y → y.block ≠ g) ∧ v5.cell? ⟨g, 0 + j, none⟩ = some (.pointer (some x))) := fun j x hx => by
    obtain ⟨g', h1, h2, h3⟩ := hpp j x hx
    refine ⟨g', h1, h2, fun i y hy => ?_, h3⟩
    have q1 := HLT4.out i y hy
    have q2 := (World.ownsRow.lt OP g' (by rw [h1]; rfl)).1
    omega
   clear hTG hpp OP
   have HLA : Hid ((opA ob p n (K : Int)).length = lA) := HLL.out
   rw [HLA.out]
   have QF := Bo.new v5 #[.slice none 0 0, .pointer none] 50
   have hst : (storeCells ⟨v5.heap.size, 0, none⟩ [.slice pa lA cp, .pointer (some ⟨ob, 5, none⟩)] 0).run Tryz.prog (v5.alloc (.cells #[.slice none 0 0, .pointer none] 50)) = .ok () (ac (v5.alloc (.cells #[.slice none 0 0, .pointer none] 50)) v5.heap.size 0 [.slice pa lA cp, .pointer (some ⟨ob, 5, none⟩)]) := Bo.store (P := Tryz.prog) (b := 0) [.slice pa lA cp, .pointer (some ⟨ob, 5, none⟩)] 0 0 QF rfl (by simp) (by intro u hu; simp only [List.mem_cons, List.not_mem_nil, or_false] at hu; rcases hu with h | h <;> (subst h; rfl))
   replace QF : Bo (ac (v5.alloc (.cells #[.slice none 0 0, .pointer none] 50)) v5.heap.size 0 [.slice pa lA cp, .pointer (some ⟨ob, 5, none⟩)]) v5.heap.size #[.slice pa lA cp, .pointer (some ⟨ob, 5, none⟩)] := QF.putW (U := #[.slice pa lA cp, .pointer (some ⟨ob, 5, none⟩)]) rfl
   have hb := ai (k := v5.heap.size) [.slice pa lA cp, .pointer (some ⟨ob, 5, none⟩)] v5 _ 0 (Below.nw v5 (.cells #[.slice none 0 0, .pointer none] 50)) (Nat.le_refl _)
   have HB56 : Hid (Below v5.heap.size v5 (ac (v5.alloc (.cells #[.slice none 0 0, .pointer none] 50)) v5.heap.size 0 [.slice pa lA cp, .pointer (some ⟨ob, 5, none⟩)])) := hb
   have HZ56 : Hid (v5.heap.size ≤ (ac (v5.alloc (.cells #[.slice none 0 0, .pointer none] 50)) v5.heap.size 0 [.slice pa lA cp, .pointer (some ⟨ob, 5, none⟩)]).heap.size) := hb.size
   replace B := B.trans (hb.mono B.size)
   replace R := R.below hb
   replace B1 := B1.trans (hb.mono B1.size)
   have HRM : Hid (dR _ ob K p n) := HRM.out.below hb
   clear hb
   go_wp2_with (rw [hst])
   clear hst
   generalize ac (v5.alloc (.cells #[.slice none 0 0, .pointer none] 50)) v5.heap.size 0 [.slice pa lA cp, .pointer (some ⟨ob, 5, none⟩)] = v6 at *
   generalize v5.heap.size = fb at *
   have hL2 := QF.load (P := Tryz.prog) (n := 2) rfl
   have CM := k5 pa lA cp ⟨ob, 5, none⟩ v6 hl9
   go_wp2_with (rw [hL2])
   (try go_simp)
   (try go_wp2_with fail)
   refine CM.mono ?_
   rintro e v7 ⟨rfl, hb⟩
   clear CM hL2
   have HB67 : Hid (Below v6.heap.size v6 v7) := hb
   replace QF := QF.below hb
   replace B := B.trans (hb.mono B.size)
   replace R := R.below hb
   replace B1 := B1.trans (hb.mono B1.size)
   have HRM : Hid (dR v7 ob K p n) := HRM.out.below hb
   clear hb
   by_cases hq : lA + 1 = m
   ·have hqq : ((lA : Int) + 1 != (m : Int)) = false := by simp; omega
    have hmk : mOk K W.length = true := by rw [HWM.out, fX HNM.out, ← HKL.out, hTB]; exact decide_eq_true (by simpa using hq)
    have HMK : Hid (mOk K W.length = true ∧ W.length = m + 1 ∧ lA + 1 = m) := ⟨hmk, HWM.out, hq⟩
    have hlA1 : 1 ≤ lA := by (rw [HLA1.out]; have := fP (K : Int); split <;> omega)
    have hcap2 : ¬ cap = 1 := by have := HCP.out; omega
    have HPB : Hid (pB = some ⟨g, 1, none⟩) := by (show pB = _; rw [← HPBB.out, if_neg hcap2])
    have hpB := HPB.out
    rw [hpB]
    clear hq hmk hcap2 HPB
    have hL2 := QF.load (P := Tryz.prog) (n := 2) rfl
    have CR := ni W (opA ob p n (K : Int)) pa cp g (cap - 1) base v7 (fun u hu => HV.out.below (B.trans (hu.mono hbw))) (Nat.le_trans HZB.out (Nat.le_trans HZ56.out HB67.out.size)) (by rw [HLA.out]; exact hl9) (fun j x hx => by
     obtain ⟨g', h1, h2, h3, h4⟩ := HPP.out j x hx
     exact ⟨g', h1, Nat.lt_of_lt_of_le h2 (Nat.le_trans HZ56.out HB67.out.size), h3, by rw [HB67.out.cell (p := ⟨g', 0 + j, none⟩) (Nat.lt_of_lt_of_le h2 HZ56.out), HB56.out.cell (p := ⟨g', 0 + j, none⟩) h2]; exact h4⟩) (cX hK1 hK2 HRM.out hbob HBG.out).1 HTN.out.1 hgb ⟨by rw [HMK.out.2.1, HLA.out]; have := HMK.out.2.2; omega, fun i hi => HC.out i hi v7 B1⟩ HS2.out (by have := HW20.out; omega) ⟨ob, 5, none⟩ ⟨HRM.out.1.1, hbob, rfl, ⟨_, HRM.out.1.2.1 5 _ rfl⟩, HRM.out.1.2.2 5 (by simp)⟩ HTN.out.2
    rw [show W.length - 1 = m by have := HMK.out.2.1; omega, HLA.out] at CR
    go_wp2_with (rw [hL2])
    (try go_simp)
    (try go_wp2_with fail)
    refine CR.mono ?_
    rintro e v8 ⟨Z, t, c, hrd, rfl, hbb, hok⟩
    clear CR hL2
    have HRD : Hid (rdF W true (W.length - 1) = (Z, t, c)) := by (show rdF W true (W.length - 1) = _; rw [show W.length - 1 = m by have := HMK.out.2.1; omega]; exact hrd)
    have HOK : Hid _ := hok
    clear hrd hok
    have B8 := B.trans (hbb.mono hbw)
    replace R := R.belowB hbb hwb
    by_cases hc : c = 0
    ·subst hc
     obtain ⟨o1, o2, o3, o4, o5, o6⟩ := HOK.out rfl
     obtain ⟨q1, q2, q3⟩ := jJ (t := t) hK1 hK2 HRM.out hbb.size o2 (o1.trans HLA.out.symm) (fun _ => o3) (fun h => by rw [hTB] at h; cases h) (fun q hq hn h5 => o4 q hq hn (h5 hTB)) o5 o6
     have HPO : Hid (paS s = if oB (opZ (K : Int) Z t) = true then (opZ (K : Int) Z t, 0) else (bf, 6)) := by
      show paS s = _
      rw [HPS.out]
      exact iX HKE.out hK0 HMK.out.1 (by rw [hTB]; exact HRD.out)
     have HL : RwA v8 base p n n (opZ (K : Int) Z t).f := by
      rcases q3 with ⟨h1, h2⟩ | ⟨g', h1, h2, h3⟩
      ·exact .inl ⟨h1, h2, h2⟩
      ·exact .inr ⟨g', h1, HBG.out g' h1, rfl, h3⟩
     have hXt : n ≤ maxLen := Nat.le_trans hn8 (by decide)
     have htx : (opZ (K : Int) Z t).tx.size ≤ maxLen := by
      have q := iZ W true HS2.out (W.length - 1)
      rw [HRD.out] at q
      rw [lh]
      exact Nat.le_trans q (by decide)
     have HXN : Hid ((opZ (K : Int) Z t).n = n) := q2
     clear o1 o2 o3 o4 o5 o6 q2 q3 HOK HRD B hbb
     have B := B8
     clear B8
     have hAs : (opV (opZ (K : Int) Z t) p n).size = 7 := rfl
     have HON : Hid (∀ u ∈ (opV (opZ (K : Int) Z t) p n).toList, u.oneCell' = true) := be (opZ (K : Int) Z t) p n
     have O2 : Bo v8 ob (opV (opZ (K : Int) Z t) p n) := q1
     clear q1
     generalize opZ (K : Int) Z t = X at *
     generalize hAA : opV X p n = A at *
     have HA : Hid (A = opV X p n) := hAA.symm
     clear hAA
     have hL2 := O2.load (P := Tryz.prog) hAs
     have COK : Calls Tryz.prog 21 #[.agg A] v8 fun e w' => e = .returned (.bool (oB X)) ∧ Below v8.heap.size v8 w' := by
      rw [HA.out]
      have hs2 : ci v8 p X.n (itG X.f) := by rw [HXN.out]; exact HL.lsa.ls.src
      exact ey X.k X.nd X.tt X.a X.b X.tx p X.n n X.f v8 htx (by rw [HXN.out]; exact hXt) hs2
     go_wp2_with (rw [hL2])
     (try go_simp)
     (try go_wp2_with fail)
     refine COK.mono ?_
     rintro e v9 ⟨rfl, hb⟩
     replace R := R.below hb
     replace O2 := O2.below hb
     replace B := B.trans (hb.mono B.size)
     replace HL := HL.below hb
     clear hb COK hL2
     cases hok : oB X
     ·have HPQ : Hid (paS s = (bf, 6)) := by (show paS s = _; rw [HPO.out, hok]; rfl)
      clear HPO
      have hst := Bo.store (P := Tryz.prog) (b := 0) [.int .i64 0, .int .i64 0, .int .i64 0, .int .i64 0, .int .i64 0, .string ⟨#[]⟩, .slice none 0 0] 0 0 R rfl (by simp) (be bf none 0)
      replace R : Bo (ac v9 w.heap.size 0 [.int .i64 0, .int .i64 0, .int .i64 0, .int .i64 0, .int .i64 0, .string ⟨#[]⟩, .slice none 0 0]) w.heap.size #[.int .i64 0, .int .i64 0, .int .i64 0, .int .i64 0, .int .i64 0, .string ⟨#[]⟩, .slice none 0 0] := R.putW (U := #[.int .i64 0, .int .i64 0, .int .i64 0, .int .i64 0, .int .i64 0, .string ⟨#[]⟩, .slice none 0 0]) rfl
      replace B := ai (k := w.heap.size) [.int .i64 0, .int .i64 0, .int .i64 0, .int .i64 0, .int .i64 0, .string ⟨#[]⟩, .slice none 0 0] w v9 0 B (Nat.le_refl _)
      go_wp2_with (rw [hst])
      clear hst
      generalize ac v9 w.heap.size 0 [.int .i64 0, .int .i64 0, .int .i64 0, .int .i64 0, .int .i64 0, .string ⟨#[]⟩, .slice none 0 0] = vz at *
      have hL := R.load (P := Tryz.prog) (n := 7) rfl
      (try simp only [Exit.inBlock, Exit.then])
      have HPA : paS s = (bf, 6) := HPQ.out
      exact bodyPost_ret (v := .tuple #[.agg #[.int .i64 0, .int .i64 0, .int .i64 0, .int .i64 0, .int .i64 0, .string ⟨#[]⟩, .slice none 0 0], .int .i64 6]) (by simp [results, Tryz.results9, go_sem]; rw [hL]; rfl) rfl ⟨none, 0, by rw [HPA]; rfl, by rw [HPA]; exact .inl ⟨rfl, rfl, rfl⟩, B⟩
     ·have HPQ : Hid (paS s = (X, 0)) := by (show paS s = _; rw [HPO.out, hok]; rfl)
      clear HPO
      have hL3 := O2.load (P := Tryz.prog) hAs
      have hst := Bo.store (P := Tryz.prog) (b := 0) A.toList 0 0 R rfl (by simp [hAs]) HON.out
      replace R : Bo (ac v9 w.heap.size 0 A.toList) w.heap.size A := R.putW (U := A) (by rw [hAs]; rfl)
      replace B := ai (k := w.heap.size) A.toList w v9 0 B (Nat.le_refl _)
      replace HL : RwA (ac v9 w.heap.size 0 A.toList) base p n n X.f := HL.but A.toList 0 hwb
      clear O2
      go_wp2_with (first | rw [hL3] | rw [hst])
      clear hL3 hst
      generalize ac v9 w.heap.size 0 A.toList = vz at *
      have hL := R.load (P := Tryz.prog) hAs
      (try simp only [Exit.inBlock, Exit.then])
      exact bodyPost_ret (v := .tuple #[.agg A, .int .i64 0]) (by simp [results, Tryz.results9, go_sem]; rw [hL]; rfl) rfl ⟨p, n, by rw [HPQ.out, HA.out], by rw [HPQ.out]; show RwA vz w.heap.size p X.n n X.f; rw [HXN.out]; exact HL.low hbw, B⟩
    ·have HPQ : Hid (paS s = (bf, c)) := by
      show paS s = _
      rw [HPS.out, jM HKE.out hK0 HMK.out.1 (by rw [hTB, HRD.out]; exact hc), hTB, HRD.out]
     have hcc : (c != 0) = true := by simp [hc]
     clear HOK HRD B hbb hc
     have B := B8
     clear B8
     have hst := Bo.store (P := Tryz.prog) (b := 0) [.int .i64 0, .int .i64 0, .int .i64 0, .int .i64 0, .int .i64 0, .string ⟨#[]⟩, .slice none 0 0] 0 0 R rfl (by simp) (be bf none 0)
     replace R : Bo (ac v8 w.heap.size 0 [.int .i64 0, .int .i64 0, .int .i64 0, .int .i64 0, .int .i64 0, .string ⟨#[]⟩, .slice none 0 0]) w.heap.size #[.int .i64 0, .int .i64 0, .int .i64 0, .int .i64 0, .int .i64 0, .string ⟨#[]⟩, .slice none 0 0] := R.putW (U := #[.int .i64 0, .int .i64 0, .int .i64 0, .int .i64 0, .int .i64 0, .string ⟨#[]⟩, .slice none 0 0]) rfl
     replace B := ai (k := w.heap.size) [.int .i64 0, .int .i64 0, .int .i64 0, .int .i64 0, .int .i64 0, .string ⟨#[]⟩, .slice none 0 0] w v8 0 B (Nat.le_refl _)
     go_wp2_with (rw [hst])
     clear hst
     generalize ac v8 w.heap.size 0 [.int .i64 0, .int .i64 0, .int .i64 0, .int .i64 0, .int .i64 0, .string ⟨#[]⟩, .slice none 0 0] = vz at *
     have hL := R.load (P := Tryz.prog) (n := 7) rfl
     (try simp only [Exit.inBlock, Exit.then])
     have HPA : paS s = (bf, c) := HPQ.out
     exact bodyPost_ret (v := .tuple #[.agg #[.int .i64 0, .int .i64 0, .int .i64 0, .int .i64 0, .int .i64 0, .string ⟨#[]⟩, .slice none 0 0], .int .i64 c]) (by simp [results, Tryz.results9, go_sem]; rw [hL]; rfl) rfl ⟨none, 0, by rw [HPA]; rfl, by rw [HPA]; exact .inl ⟨rfl, rfl, rfl⟩, B⟩
   ·have hqq : ((lA : Int) + 1 != (m : Int)) = true := by simp; omega
    have HPQ : Hid (paS s = (bf, 3)) := by
     show paS s = _
     rw [HPS.out]
     exact g7 HKE.out hK0 (by rw [HWM.out, fX HNM.out, ← HKL.out, hTB]; exact decide_eq_false (by simpa using hq))
    clear hq
    have hst := Bo.store (P := Tryz.prog) (b := 0) [.int .i64 0, .int .i64 0, .int .i64 0, .int .i64 0, .int .i64 0, .string ⟨#[]⟩, .slice none 0 0] 0 0 R rfl (by simp) (be bf none 0)
    replace R : Bo (ac v7 w.heap.size 0 [.int .i64 0, .int .i64 0, .int .i64 0, .int .i64 0, .int .i64 0, .string ⟨#[]⟩, .slice none 0 0]) w.heap.size #[.int .i64 0, .int .i64 0, .int .i64 0, .int .i64 0, .int .i64 0, .string ⟨#[]⟩, .slice none 0 0] := R.putW (U := #[.int .i64 0, .int .i64 0, .int .i64 0, .int .i64 0, .int .i64 0, .string ⟨#[]⟩, .slice none 0 0]) rfl
    replace B := ai (k := w.heap.size) [.int .i64 0, .int .i64 0, .int .i64 0, .int .i64 0, .int .i64 0, .string ⟨#[]⟩, .slice none 0 0] w v7 0 B (Nat.le_refl _)
    go_wp2_with (rw [hst])
    clear hst
    generalize ac v7 w.heap.size 0 [.int .i64 0, .int .i64 0, .int .i64 0, .int .i64 0, .int .i64 0, .string ⟨#[]⟩, .slice none 0 0] = vz at *
    have hL := R.load (P := Tryz.prog) (n := 7) rfl
    (try simp only [Exit.inBlock, Exit.then])
    have HPA : paS s = (bf, 3) := HPQ.out
    exact bodyPost_ret (v := .tuple #[.agg #[.int .i64 0, .int .i64 0, .int .i64 0, .int .i64 0, .int .i64 0, .string ⟨#[]⟩, .slice none 0 0], .int .i64 3]) (by simp [results, Tryz.results9, go_sem]; rw [hL]; rfl) rfl ⟨none, 0, by rw [HPA]; rfl, by rw [HPA]; exact .inl ⟨rfl, rfl, rfl⟩, B⟩
theorem fa (s : ByteArray) (w : World) (EV : VN w) (EO : OpW w) (hm : s.size ≤ maxLen) :
 Calls Tryz.prog 9 #[.string s] w fun e w' => ∃ p c, e = .returned (.tuple #[.agg (opV (paS s).1 p c), .int .i64 (paS s).2]) ∧ RwA w' w.heap.size p (paS s).1.n c (paS s).1.f ∧ Below w.heap.size w w' := by
 by_cases h : s.size ≤ 20000
 ·exact fc s w EV EO h
 ·exact en s w hm (by omega)
end Go.Proofs.YtddjiamollfplaaGreatDoor
