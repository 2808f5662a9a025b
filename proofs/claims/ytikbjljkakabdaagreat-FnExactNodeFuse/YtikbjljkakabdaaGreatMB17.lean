/- A struct in memory, told by the array of its cells. Slots and rows of  -/
import Derived.Test.YtikbjljkakabdaaGreatMB0
import Derived.Test.YtikbjljkakabdaaGreatMB16
namespace Go.Proofs.YtikbjljkakabdaaGreat
open Go.RowKit
set_option linter.unusedVariables false
set_option maxRecDepth 100000
set_option maxHeartbeats 16000000
def Bo (w : World) (k : Nat) (A : Array Value) : Prop := k < w.heap.size ∧ (∀ i u, A[i]? = some u → w.cell? ⟨k, i, none⟩ = some u) ∧ ∀ i, i < A.size → w.frozen? ⟨k, i, none⟩ = false
theorem Bo.belowB {k B : Nat} {w w' : World} {A : Array Value} (h : Bo w k A) (hw : Below B w w') (hk : k < B) : Bo w' k A :=
 ⟨Nat.lt_of_lt_of_le h.1 hw.size, fun i u hi => by rw [hw.cell (p := ⟨k, i, none⟩) hk]; exact h.2.1 i u hi, fun i hi => by rw [hw.frozen (p := ⟨k, i, none⟩) hk]; exact h.2.2 i hi⟩
theorem Bo.below {k : Nat} {w w' : World} {A : Array Value} (h : Bo w k A) (hw : Below w.heap.size w w') : Bo w' k A := h.belowB hw h.1
theorem Bo.new (w : World) (A : Array Value) (T : TypeId) : Bo (w.alloc (.cells A T)) w.heap.size A :=
 ⟨by simp, fun i u hi => by simp [hi], fun i hi => by simp⟩
theorem Bo.drew {k : Nat} {w : World} {A : Array Value} (h : Bo w k A) : Bo w.drew k A := h
theorem add_at (k o i : Nat) : (⟨k, o, none⟩ : Addr).add i = ⟨k, o + i, none⟩ := by
 unfold Addr.add; split <;> simp_all
theorem Bo.load {P : Program} {w : World} {k n : Nat} {A : Array Value} (h : Bo w k A) (hn : A.size = n) : (loadCells ⟨k, 0, none⟩ n).run P w = .ok A w := by
 have e := run_loadCells_list (P := P) w ⟨k, 0, none⟩ A.toList (fun j v hj => by rw [add_at, Nat.zero_add]; exact h.2.1 j v (by simpa using hj))
 rw [← hn]
 simpa using e
theorem Bo.loadAt {P : Program} {w : World} {k : Nat} {A : Array Value} (h : Bo w k A) (o n : Nat) (hn : o + n ≤ A.size) : (loadCells ⟨k, o, none⟩ n).run P w = .ok (A.extract o (o + n)) w := by
 have e := run_loadCells_list (P := P) w ⟨k, o, none⟩ (A.extract o (o + n)).toList (fun j v hj => by
  rw [add_at]
  refine h.2.1 _ v ?_
  rw [Array.getElem?_toList, Array.getElem?_extract] at hj
  split at hj
  ·exact hj
  ·cases hj)
 have hl : (A.extract o (o + n)).toList.length = n := by simp; omega
 rw [hl, Array.toArray_toList] at e
 exact e
def aF (w : World) (k : Nat) : Nat → List Value → World
 | _, [] => w
 | o, u :: us => aF (w.setCell ⟨k, o, none⟩ u) k (o + 1) us
theorem bE (k : Nat) : ∀ (us : List Value) (w : World) (o : Nat), (aF w k o us).heap.size = w.heap.size
 | [], _, _ => rfl
 | u :: us, w, o => by rw [aF, bE k us]; simp
theorem lr {j : Nat} : ∀ (us : List Value) (v w : World) (o : Nat), But j v w → But j v (aF w j o us)
 | [], _, _, _, h => h
 | u :: us, v, w, o, h => lr us v _ (o + 1) (h.setCell o u)
theorem an {k B : Nat} : ∀ (us : List Value) (v w : World) (o : Nat), Below B v w → B ≤ k → Below B v (aF w k o us)
 | [], _, _, _, h, _ => h
 | u :: us, v, w, o, h, hk => an us v _ (o + 1) (h.setCell (p := ⟨k, o, none⟩) hk u) hk
def spl (A : Array Value) : Nat → List Value → Array Value
 | _, [] => A
 | o, u :: us => spl (A.setIfInBounds o u) (o + 1) us
theorem Bo.set {w : World} {k : Nat} {A : Array Value} (h : Bo w k A) (o : Nat) (u : Value) : Bo (w.setCell ⟨k, o, none⟩ u) k (A.setIfInBounds o u) := by
 refine ⟨by simpa using h.1, fun i x hi => ?_, fun i hi => ?_⟩
 ·by_cases e : o = i
  ·subst e
   by_cases ho : o < A.size
   ·rw [Array.getElem?_setIfInBounds_self_of_lt ho] at hi
    cases hi
    exact World.cell?_setCell_same _ _ _ (h.2.1 o A[o] (Array.getElem?_eq_getElem ho))
   ·rw [Array.getElem?_eq_none (by simp; omega)] at hi
    cases hi
  ·rw [Array.getElem?_setIfInBounds_ne e] at hi
   rw [zO (by simp)]
   exact h.2.1 i x hi
 ·have := h.2.2 i (by simpa using hi)
  simpa using this
theorem Bo.put {k : Nat} : ∀ (us : List Value) {w : World} {A : Array Value} (o : Nat), Bo w k A → Bo (aF w k o us) k (spl A o us)
 | [], _, _, _, h => h
 | u :: us, _, _, o, h => Bo.put us (o + 1) (h.set o u)
theorem oq : ∀ (us : List Value) (A : Array Value) (o i : Nat), o + us.length ≤ A.size → (spl A o us)[i]? = if o ≤ i ∧ i < o + us.length then us[i - o]? else A[i]?
 | [], A, o, i, _ => by rw [spl, if_neg (by simp)]
 | u :: us, A, o, i, h => by
  simp only [List.length_cons] at h
  rw [spl, oq us _ (o + 1) i (by simp; omega)]
  by_cases e : i = o
  ·subst e
   rw [if_neg (by omega), if_pos (by simp), Array.getElem?_setIfInBounds_self_of_lt (by omega), Nat.sub_self]
   rfl
  ·by_cases h1 : o + 1 ≤ i ∧ i < o + 1 + us.length
   ·rw [if_pos h1, if_pos (by simp; omega)]
    obtain ⟨d, hd⟩ : ∃ d, i - o = d + 1 := ⟨i - o - 1, by omega⟩
    rw [hd, show i - (o + 1) = d by omega]
    rfl
   ·rw [if_neg h1, if_neg (by simp; omega), Array.getElem?_setIfInBounds_ne (by omega)]
theorem iD (A U : Array Value) (h : U.size = A.size) : spl A 0 U.toList = U := by
 apply Array.ext_getElem?
 intro i
 rw [oq _ _ _ _ (by simp; omega)]
 by_cases hi : i < U.size
 ·rw [if_pos (by simpa using hi)]; simp
 ·rw [if_neg (by simpa using hi), Array.getElem?_eq_none (by omega), Array.getElem?_eq_none (by omega)]
theorem Bo.putW {k : Nat} {w : World} {A U : Array Value} (h : Bo w k A) (hU : U.size = A.size) : Bo (aF w k 0 U.toList) k U := by
 have e := Bo.put U.toList 0 h
 rw [iD A U hU] at e
 exact e
theorem Bo.store {P : Program} {k b : Nat} : ∀ (us : List Value) {w : World} {A : Array Value} (o i : Nat), Bo w k A → b + i = o → o + us.length ≤ A.size → (∀ u ∈ us, u.oneCell' = true) → (storeCells ⟨k, b, none⟩ us i).run P w = .ok () (aF w k o us)
 | [], _, _, _, _, _, _, _, _ => rfl
 | u :: us, w, A, o, i, h, hb, hl, hu => by
  simp only [List.length_cons] at hl
  have hc := h.2.1 o A[o] (Array.getElem?_eq_getElem (by omega))
  have hf := h.2.2 o (by omega)
  rw [storeCells, Sem.run_bind, add_at, hb, run_store _ _ _ _ _ (hu u (List.mem_cons_self ..)), hc]
  simp [hf, Result.andThen]
  exact Bo.store us (o + 1) (i + 1) (h.set o u) (by omega) (by simp; omega) (fun x hx => hu x (List.mem_cons_of_mem _ hx))
theorem Bo.cell {w : World} {k : Nat} {A : Array Value} (h : Bo w k A) {i : Nat} {u : Value} (hi : A[i]? = some u) : w.cell? ⟨k, i, none⟩ = some u := h.2.1 i u hi
theorem Bo.kept {w w' : World} {q : Option Nat} {k : Nat} {A : Array Value} (h : Bo w k A) (hg : w.grownBy w' q) (hq : some k ≠ q) : Bo w' k A :=
 ⟨Nat.lt_of_lt_of_le h.1 hg.size, fun i u hi => by rw [cB hg h.1 hq]; exact h.2.1 i u hi, fun i hi => by
  have := hg.block k h.1 hq
  have e : w'.frozen? ⟨k, i, none⟩ = w.frozen? ⟨k, i, none⟩ := by simp only [World.frozen?]; rw [this]
  rw [e]; exact h.2.2 i hi⟩
theorem nu (x0 x1 : Int) (w : World) :
 Calls Tryz.prog 122 #[.agg #[.int .i64 x0, .int .i64 x1]] w fun e w' => e = .returned (.agg #[.int .i64 x0, .int .i64 x1]) ∧ Below w.heap.size w w' := by
 go_enter Tryz.func122, Tryz.ntmps122
 go_wp2_with fail
 exact bodyPost_ret (v := .agg #[.int .i64 x0, .int .i64 x1]) (by simp (maxDischargeDepth := 6) [results, Tryz.results122, go_sem, *]) rfl ⟨rfl, zB⟩
theorem kq (x0 x1 : Int) (w : World) :
 Calls Tryz.prog 138 #[.agg #[.int .i64 x0, .int .i64 x1], .agg #[.int .i64 x0, .int .i64 x1]] w fun e w' => e = .returned (.bool true) ∧ Below w.heap.size w w' := by
 go_enter Tryz.func138, Tryz.ntmps138
 go_wp2_with fail
 go_ret
 exact ⟨rfl, zB⟩
def l6 (M : SlT) : Nat → Value
 | 0 => .int .i64 M.1
 | _ => .int .i64 M.2
def aH (M : Nat → SlT) (c : Nat) : Value := l6 (M (c / 2)) (c % 2)
theorem ik (M : Nat → SlT) (k j : Nat) (hj : j < 2) : aH M (k * 2 + j) = l6 (M k) j := by
 have h1 : (k * 2 + j) / 2 = k := by omega
 have h2 : (k * 2 + j) % 2 = j := by omega
 rw [aH, h1, h2]
theorem eP {M : Nat → SlT} {k : Nat} {x0 : Int} {x1 : Int} (hM : M k = (x0, x1)) : aH M (k * 2) = .int .i64 x0 ∧ aH M (k * 2 + 1) = .int .i64 x1 :=
 ⟨by have q := ik M k 0 (by decide); rw [hM] at q; exact q, by have q := ik M k 1 (by decide); rw [hM] at q; exact q⟩
theorem Cs.elSlot {w : World} {b off n k : Nat} {M : Nat → SlT} {x0 : Int} {x1 : Int} (h : Cs w b off (n * 2) (aH M)) (hk : k < n) (hM : M k = (x0, x1)) : w.cell? ⟨b, off + k * 2, none⟩ = some (.int .i64 x0) ∧ w.cell? ⟨b, off + k * 2 + 1, none⟩ = some (.int .i64 x1) := by
 obtain ⟨q0, q1⟩ := eP hM
 exact ⟨by have := h.2 (k * 2) (by omega); rw [q0] at this; exact this, by have := h.2 (k * 2 + 1) (by omega); rw [q1] at this; exact this⟩
theorem fC (M : Nat → SlT) (k : Nat) : ∃ (x0 : Int) (x1 : Int), M k = (x0, x1) := ⟨_, _, rfl⟩
theorem eW (a : Option Addr) (n c : Nat) (L : Int) (w : World) (hm : n ≤ maxLen) (L0 : 0 ≤ L) (L1 : L ≤ 1048576) :
 Calls Tryz.prog 66 #[.slice a n c, .int .i64 L] w fun e w' => e = .returned (.int .i64 (if (n : Int) ≤ L then L - (n : Int) else -1)) ∧ w = w' := by
 unfold maxLen at hm
 by_cases h : (n : Int) ≤ L
 ·rw [if_pos h]
  have hd : decide (L - (n : Int) < 0) = false := by simp; omega
  go_enter Tryz.func66, Tryz.ntmps66
  go_wp2_with fail
  go_ret
  exact ⟨rfl, rfl⟩
 ·rw [if_neg h]
  have hd : decide (L - (n : Int) < 0) = true := by simp; omega
  go_enter Tryz.func66, Tryz.ntmps66
  go_wp2_with fail
  go_ret
  exact ⟨rfl, rfl⟩
def gr (n : Nat) : Obj := .cells (madeCells #[.int .i64 0, .int .i64 0] (n * 2)) 195
theorem qb : (Tryz.prog.info? 195).map (fun i => (i.zero, i.size, i.bytes)) = some (some (.agg #[.int .i64 0, .int .i64 0]), 2, 16) := by kernel_rfl
theorem go (n : Nat) (h : n ≤ 1048576) (w : World) : (Instr.makeSlice 62 (.int .i64 (n : Int)) (.int .i64 (n : Int))).run Tryz.prog w = .ok (.slice (some ⟨w.heap.size, 0, none⟩) n n) (w.alloc (gr n)) := by
 obtain ⟨i, hi, hz⟩ := Option.map_eq_some_iff.1 qb
 simp only [Prod.mk.injEq] at hz
 obtain ⟨h1, h2, h3⟩ := hz
 have hr := run_make (P := Tryz.prog) w 62 195 i _ Tryz.underlying62 hi h1 .i64 .i64 n n (by omega) (Int.le_refl _) (by rw [h3]; omega) (by omega)
 simp only [Int.toNat_natCast, h2] at hr
 exact hr
theorem dM (w : World) (n : Nat) (F : Nat → Value) : ax (w.alloc (gr n)) w.heap.size 195 (n * 2) 0 F := by
 have h := World.rowIs_alloc w (madeCells #[.int .i64 0, .int .i64 0] (n * 2)) 195 (fun i => (madeCells #[.int .i64 0, .int .i64 0] (n * 2)).getD i undef) (fun i hi => by
  rw [Array.getElem?_eq_getElem hi]; exact congrArg some (by rw [Array.getD_eq_getD_getElem?, Array.getElem?_eq_getElem hi]; rfl))
 rw [size_madeCells] at h
 exact ⟨_, h, fun j hj => absurd hj (Nat.not_lt_zero _)⟩
theorem jJ (b off n c : Nat) (M : Nat → SlT) (w : World) (hn : n ≤ 1048576) (hf : Cs w b off (n * 2) (aH M)) :
 Calls Tryz.prog 80 #[.slice (some ⟨b, off, none⟩) n c] w fun e w' => e = .returned (.slice (some ⟨w.heap.size, 0, none⟩) n n) ∧ ax w' w.heap.size 195 (n * 2) (n * 2) (aH M) ∧ Below w.heap.size w w' := by
 have hmk := go n hn
 go_enter Tryz.func80, Tryz.ntmps80
 go_wp2_with fail
 clear hmk
 go_loopw [4] (fun i wr => ∃ k : Nat, k ≤ n ∧ i = .int .i64 k ∧ ax wr w.heap.size 195 (n * 2) (k * 2) (aH M) ∧ Below w.heap.size w wr) (fun i _ => n - (intOf i).toNat)
 case atStart => exact ⟨0, Nat.zero_le _, rfl, (dM w n _).eqm (by omega), (Below.refl _ _).alloc (Nat.le_refl _) _⟩
 case round =>
  obtain ⟨k, hk, rfl, hrow, hB⟩ := hrel
  by_cases hlt : k < n
  ·obtain ⟨x0, x1, hM⟩ := fC M k
   obtain ⟨c0, c1⟩ := (hf.below hB hf.1).elSlot hlt hM
   obtain ⟨q0, q1⟩ := eP hM
   have hli : (k : Int) < (n : Int) := by omega
   have hlr := hrow.lt
   clear hM
   go_wp2_with fail
   refine (nu x0 x1 _).mono ?_
   rintro e w' ⟨rfl, hb⟩
   have row := ax.below hb hlr hrow
   have hB2 := hB.trans (hb.mono hB.size)
   clear c0 c1 hrow hB hb
   have hlr2 := row.lt
   obtain ⟨⟨v0, e0⟩, f0⟩ := row.facts (k * 2) (by omega)
   obtain ⟨⟨v1, e1⟩, f1⟩ := row.facts (k * 2 + 1) (by omega)
   go_wp2_with fail
   go_roundw
   case rel => exact ⟨k + 1, by omega, by go_num, ((row.put (k * 2 + 1) (by omega) q0).put ((k + 1) * 2) (by omega) q1), ((hB2.setCell (Nat.le_refl _) _).setCell (Nat.le_refl _) _)⟩
   case measure => simp [intOf]; omega
  ·have hkn : k = n := by omega
   subst hkn
   have hli : ¬ (k : Int) < (k : Int) := by omega
   go_wp2_with fail
   go_ret
   exact ⟨rfl, hrow, hB⟩
theorem ig (a : Option Addr) (c : Nat) (F : Nat → Value) (w : World) :
 Calls Tryz.prog 80 #[.slice a 0 c] w fun e w' => e = .returned (.slice (some ⟨w.heap.size, 0, none⟩) 0 0) ∧ ax w' w.heap.size 195 (0 * 2) (0 * 2) F ∧ Below w.heap.size w w' := by
 have hmk := go 0 (by omega)
 simp only [Int.ofNat_zero] at hmk
 go_enter Tryz.func80, Tryz.ntmps80
 go_wp2_with fail
 clear hmk
 go_loopw [4] (fun i wr => i = .int .i64 0 ∧ ax wr w.heap.size 195 (0 * 2) 0 F ∧ Below w.heap.size w wr) (fun i _ => 0)
 case atStart => exact ⟨rfl, dM w 0 F, (Below.refl _ _).alloc (Nat.le_refl _) _⟩
 case round =>
  obtain ⟨rfl, hrow, hB⟩ := hrel
  go_wp2_with fail
  go_ret
  exact ⟨rfl, hrow.eqm (by omega), hB⟩
theorem lT (a : Option Addr) (n c : Nat) (M : Nat → SlT) (w : World) (hn : n ≤ 1048576) (h : az w a (n * 2) (aH M)) :
 Calls Tryz.prog 80 #[.slice a n c] w fun e w' => e = .returned (.slice (some ⟨w.heap.size, 0, none⟩) n n) ∧ ax w' w.heap.size 195 (n * 2) (n * 2) (aH M) ∧ Below w.heap.size w w' := by
 rcases h with h0 | ⟨b, off, rfl, h2⟩
 ·have hn0 : n = 0 := by omega
  subst hn0
  exact ig a c _ w
 ·exact jJ b off n c M w hn h2
theorem iU (b off b' off' n c c' : Nat) (M : Nat → SlT) (w : World) (hn : n ≤ maxLen) (hf : Cs w b off (n * 2) (aH M)) (hg : Cs w b' off' (n * 2) (aH M)) :
 Calls Tryz.prog 97 #[.slice (some ⟨b, off, none⟩) n c, .slice (some ⟨b', off', none⟩) n c'] w fun e w' => e = .returned (.bool true) ∧ Below w.heap.size w w' := by
 unfold maxLen at hn
 go_enter Tryz.func97, Tryz.ntmps97
 go_wp2_with fail
 go_loopw [5] (fun i wr => ∃ k : Nat, k ≤ n ∧ i = .int .i64 k ∧ Below w.heap.size w wr) (fun i _ => n - (intOf i).toNat)
 case atStart => exact ⟨0, Nat.zero_le _, rfl, Below.refl _ _⟩
 case round =>
  obtain ⟨k, hk, rfl, hB⟩ := hrel
  by_cases hlt : k < n
  ·obtain ⟨x0, x1, hM⟩ := fC M k
   obtain ⟨c0, c1⟩ := (hf.below hB hf.1).elSlot hlt hM
   obtain ⟨d0, d1⟩ := (hg.below hB hg.1).elSlot hlt hM
   have hb1 : b < wr.drew.heap.size := Nat.lt_of_lt_of_le hf.1 hB.size
   have hb2 : b' < wr.drew.heap.size := Nat.lt_of_lt_of_le hg.1 hB.size
   have hsz : w.heap.size ≤ wr.drew.heap.size := hB.size
   have hli : (k : Int) < (n : Int) := by omega
   clear hM
   go_wp2_with fail
   refine wp_region_held_drew (S := (fun w' => w'.cell? ⟨b, off + k * 2, none⟩ = some (.int .i64 x0) ∧ w'.cell? ⟨b, off + k * 2 + 1, none⟩ = some (.int .i64 x1) ∧ w'.cell? ⟨b', off' + k * 2, none⟩ = some (.int .i64 x0) ∧ w'.cell? ⟨b', off' + k * 2 + 1, none⟩ = some (.int .i64 x1))) (by kernel_rfl) ?_ (fun hHeld => ?_)
   ·first | exact ⟨c0, c1, d0, d1⟩ | (simp (maxDischargeDepth := 6) [go_sem, *]; done)
   refine zT8 0 ?_
   refine zQ 8 fun K hK => ?_
   go_simp
   refine (kq _ _ _).mono ?_; rintro e w' ⟨rfl, hb⟩; (replace c0 := (hb.cell (p := ⟨b, off + k * 2, none⟩) hb1).trans c0); (replace c1 := (hb.cell (p := ⟨b, off + k * 2 + 1, none⟩) hb1).trans c1); (replace d0 := (hb.cell (p := ⟨b', off' + k * 2, none⟩) hb2).trans d0); (replace d1 := (hb.cell (p := ⟨b', off' + k * 2 + 1, none⟩) hb2).trans d1)
   (try go_wp2_with fail)
   refine hK.out _ _ ?_ (fun hHeld => ?_)
   ·first | exact ⟨c0, c1, d0, d1⟩ | (simp (maxDischargeDepth := 6) [go_sem, *]; done)
   clear hK K
   (try simp only [zA])
   refine zTk 9 ?_
   refine wpAnyH_done (by kernel_rfl) ?_ _
   go_wp2_with fail
   go_roundw
   case rel => exact ⟨k + 1, by omega, by go_num, (Below.drew hB).trans (hb.mono hsz)⟩
   case measure => simp [intOf]; omega
  ·go_wp2_with fail
   go_ret
   exact ⟨rfl, hB⟩
theorem iV (a a' : Option Addr) (c c' : Nat) (w : World) :
 Calls Tryz.prog 97 #[.slice a 0 c, .slice a' 0 c'] w fun e w' => e = .returned (.bool true) ∧ Below w.heap.size w w' := by
 go_enter Tryz.func97, Tryz.ntmps97
 go_wp2_with fail
 go_loopw [5] (fun i wr => i = .int .i64 0 ∧ w = wr) (fun i _ => 0)
 case atStart => exact ⟨rfl, rfl⟩
 case round =>
  obtain ⟨rfl, rfl⟩ := hrel
  go_wp2_with fail
  go_ret
  exact ⟨rfl, Below.refl _ _⟩
theorem kp (a a' : Option Addr) (n c c' : Nat) (M : Nat → SlT) (w : World) (hn : n ≤ maxLen) (h : az w a (n * 2) (aH M)) (h' : az w a' (n * 2) (aH M)) :
 Calls Tryz.prog 97 #[.slice a n c, .slice a' n c'] w fun e w' => e = .returned (.bool true) ∧ Below w.heap.size w w' := by
 by_cases h0 : n = 0
 ·subst h0; exact iV a a' c c' w
 ·rcases h with h | ⟨b, off, rfl, hp⟩
  ·omega
  ·rcases h' with h | ⟨b', off', rfl, hp'⟩
   ·omega
   ·exact iU b off b' off' n c c' M w hn hp hp'
def eC (q : Int) (c : Nat) : Value := .int .i64 (q + (c : Int))
theorem k8 {q : Int} {k j : Nat} {x : Int} (h : x = q + ((k * 2 + j : Nat) : Int)) : eC q (k * 2 + j) = .int .i64 x := by rw [eC, h]
theorem gT (b N n c : Nat) (q0 : Int) (w : World) (hn : n ≤ 1048576) (hq : 0 < q0) (hq1 : q0 ≤ 1073741824) (hN : n * 2 ≤ N) (h : ax w b 195 N 0 (eC q0)) :
 Calls Tryz.prog 98 #[.slice (some ⟨b, 0, none⟩) n c, .int .i64 q0] w fun e w' => e = .returned (.int .i64 (q0 + (n : Int) * 2)) ∧ ax w' b 195 N (n * 2) (eC q0) ∧ But b w w' := by
 go_enter Tryz.func98, Tryz.ntmps98
 go_wp2_with fail
 go_loopw [1, 5] (fun q i wr => ∃ (k : Nat) (Q : Int), k ≤ n ∧ i = .int .i64 k ∧ q = .int .i64 Q ∧ Q = q0 + (k : Int) * 2 ∧ ax wr b 195 N (k * 2) (eC q0) ∧ But b w wr) (fun _ i _ => n - (intOf i).toNat)
 case atStart => exact ⟨0, q0, Nat.zero_le _, rfl, rfl, by omega, h.eqm (by omega), But.refl _ _⟩
 case round =>
  obtain ⟨k, Q, hk, rfl, rfl, hQ, row, hB⟩ := hrel
  clear h
  have HQ : Hid (Q = q0 + (k : Int) * 2) := hQ
  by_cases hlt : k < n
  ·have hli : (k : Int) < (n : Int) := by omega
   have Q0 : 0 < Q := by omega
   have Q1 : Q ≤ 1073741824 + 1048576 * 2 := by omega
   clear hQ
   have hlr := row.lt
   obtain ⟨⟨v0, e0⟩, f0⟩ := row.facts (k * 2) (by omega)
   obtain ⟨⟨v1, e1⟩, f1⟩ := row.facts (k * 2 + 1) (by omega)
   go_wp2_with fail
   go_roundw
   case rel => exact ⟨k + 1, _, by omega, by go_num, rfl, by have := HQ.out; omega, (ax.put (ax.put row (k * 2 + 1) (by omega) (k8 (k := k) (j := 0) (by have := HQ.out; omega))) ((k + 1) * 2) (by omega) (k8 (k := k) (j := 1) (by have := HQ.out; omega))), ((hB.setCell _ _).setCell _ _)⟩
   case measure => simp [intOf]; omega
  ·have hkn : k = n := by omega
   subst hkn
   have hli : ¬ (k : Int) < (k : Int) := by omega
   subst hQ
   go_wp2_with fail
   go_ret
   exact ⟨rfl, row, hB⟩
theorem gj (a : Option Addr) (c : Nat) (q0 : Int) (w : World) :
 Calls Tryz.prog 98 #[.slice a 0 c, .int .i64 q0] w fun e w' => e = .returned (.int .i64 q0) ∧ w = w' := by
 go_enter Tryz.func98, Tryz.ntmps98
 go_wp2_with fail
 go_loopw [1, 5] (fun q i wr => i = .int .i64 0 ∧ q = .int .i64 q0 ∧ w = wr) (fun _ i _ => 0)
 case atStart => exact ⟨rfl, rfl, by first | rfl | trivial⟩
 case round =>
  obtain ⟨rfl, rfl, rfl⟩ := hrel
  go_wp2_with fail
  go_ret
  exact ⟨rfl, rfl⟩
def Btw (lo hi : Nat) (w w' : World) : Prop := w'.os = w.os ∧ w'.tape = w.tape ∧ w'.output = w.output ∧ w.heap.size ≤ w'.heap.size ∧ ∀ k, k < w.heap.size → (k < lo ∨ hi ≤ k) → w'.heap[k]? = w.heap[k]?
theorem Btw.trans {lo hi : Nat} {u v w : World} (h : Btw lo hi u v) (k : Btw lo hi v w) : Btw lo hi u w :=
 ⟨k.1.trans h.1, k.2.1.trans h.2.1, k.2.2.1.trans h.2.2.1, Nat.le_trans h.2.2.2.1 k.2.2.2.1, fun i hi' ho => (k.2.2.2.2 i (Nat.lt_of_lt_of_le hi' h.2.2.2.1) ho).trans (h.2.2.2.2 i hi' ho)⟩
theorem Btw.ofBelow {lo hi : Nat} {w w' : World} (h : Below w.heap.size w w') : Btw lo hi w w' := ⟨h.os, h.tape, h.output, h.size, fun k hk _ => h.block k hk⟩
theorem Btw.ofGrown {lo hi : Nat} {w w' : World} {o : Option Nat} (h : w.grownBy w' o) (ho : ∀ g, o = some g → lo ≤ g ∧ g < hi) : Btw lo hi w w' :=
 ⟨h.os, h.tape, h.output, h.size, fun k hk hx => h.block k hk (fun e => by have := ho k e.symm; omega)⟩
theorem Btw.belowL {lo hi : Nat} {w w' : World} (h : Btw lo hi w w') (hl : lo ≤ w.heap.size) : Below lo w w' := ⟨h.1, h.2.1, h.2.2.1, h.2.2.2.1, fun k hk => h.2.2.2.2 k (by omega) (.inl hk)⟩
theorem Btw.cell {lo hi : Nat} {w w' : World} (h : Btw lo hi w w') {k i : Nat} (hk : k < w.heap.size) (ho : k < lo ∨ hi ≤ k) : w'.cell? ⟨k, i, none⟩ = w.cell? ⟨k, i, none⟩ := by
 simp only [World.cell?]; rw [h.2.2.2.2 k hk ho]
theorem Btw.frozen {lo hi : Nat} {w w' : World} (h : Btw lo hi w w') {k i : Nat} (hk : k < w.heap.size) (ho : k < lo ∨ hi ≤ k) : w'.frozen? ⟨k, i, none⟩ = w.frozen? ⟨k, i, none⟩ := by
 simp only [World.frozen?]; rw [h.2.2.2.2 k hk ho]
theorem Bo.btw {lo hi : Nat} {w w' : World} {k : Nat} {A : Array Value} (h : Bo w k A) (hb : Btw lo hi w w') (ho : k < lo ∨ hi ≤ k) : Bo w' k A :=
 ⟨Nat.lt_of_lt_of_le h.1 hb.2.2.2.1, fun i u hi => by rw [hb.cell h.1 ho]; exact h.2.1 i u hi, fun i hi => by rw [hb.frozen h.1 ho]; exact h.2.2 i hi⟩
def Rwo (w : World) (lo hi : Nat) (T : TypeId) (sz : Nat) (a : Option Addr) (n c : Nat) (F : Nat → Value) : Prop :=
 w.ownsRow lo T sz (.slice a n c) n ((List.range (n * sz)).map F) ∧ ∀ g, (Value.slice a n c).ownBlock = some g → g < hi
theorem Rwo.lt {w : World} {lo hi : Nat} {T : TypeId} {sz : Nat} {a : Option Addr} {n c : Nat} {F : Nat → Value} (h : Rwo w lo hi T sz a n c F) {g : Nat} (hg : (Value.slice a n c).ownBlock = some g) : lo ≤ g ∧ g < hi ∧ g < w.heap.size :=
 ⟨(World.ownsRow.lt h.1 g hg).1, h.2 g hg, (World.ownsRow.lt h.1 g hg).2⟩
theorem Rwo.same {w w' : World} {lo hi : Nat} {T : TypeId} {sz : Nat} {a : Option Addr} {n c : Nat} {F : Nat → Value} (h : Rwo w lo hi T sz a n c F) (hs : ∀ g, (Value.slice a n c).ownBlock = some g → w'.heap[g]? = w.heap[g]?) : Rwo w' lo hi T sz a n c F := by
 refine ⟨⟨h.1.1, ?_⟩, h.2⟩
 rcases h.1.2 with q | ⟨g, cap, cur, e, h1, h2, h3⟩
 ·exact .inl q
 ·exact .inr ⟨g, cap, cur, e, h1, by rw [hs g (by rw [e]; rfl)]; exact h2, h3⟩
theorem Rwo.below {w w' : World} {lo hi : Nat} {T : TypeId} {sz : Nat} {a : Option Addr} {n c : Nat} {F : Nat → Value} (h : Rwo w lo hi T sz a n c F) (hb : Below w.heap.size w w') : Rwo w' lo hi T sz a n c F :=
 h.same fun g hg => hb.block g (h.lt hg).2.2
theorem Rwo.btw {w w' : World} {lo hi l u : Nat} {T : TypeId} {sz : Nat} {a : Option Addr} {n c : Nat} {F : Nat → Value} (h : Rwo w lo hi T sz a n c F) (hb : Btw l u w w') (ho : hi ≤ l ∨ u ≤ lo) : Rwo w' lo hi T sz a n c F :=
 h.same fun g hg => hb.2.2.2.2 g (h.lt hg).2.2 (by have := h.lt hg; omega)
theorem Rwo.kept {w w' : World} {lo hi : Nat} {o : Option Nat} {T : TypeId} {sz : Nat} {a : Option Addr} {n c : Nat} {F : Nat → Value} (h : Rwo w lo hi T sz a n c F) (hb : w.grownBy w' o) (ho : ∀ g, (Value.slice a n c).ownBlock = some g → some g ≠ o) : Rwo w' lo hi T sz a n c F :=
 h.same fun g hg => hb.block g (h.lt hg).2.2 (ho g hg)
theorem Rwo.ne {w : World} {lo hi lo' hi' : Nat} {T T' : TypeId} {sz sz' : Nat} {a a' : Option Addr} {n c n' c' : Nat} {F F' : Nat → Value} (h : Rwo w lo hi T sz a n c F) (h' : Rwo w lo' hi' T' sz' a' n' c' F') (hT : T ≠ T') : ∀ g, (Value.slice a n c).ownBlock = some g → some g ≠ (Value.slice a' n' c').ownBlock := by
 intro g hg e
 rcases h.1.2 with ⟨q, _⟩ | ⟨g1, cap, cur, e1, _, h2, _⟩
 ·rw [q] at hg; cases hg
 ·rcases h'.1.2 with ⟨q, _⟩ | ⟨g2, cap', cur', e2, _, k2, _⟩
  ·rw [q] at e; cases e
  ·rw [e1] at hg
   rw [e2] at e
   cases hg
   cases e
   rw [h2] at k2
   injection k2 with k2
   injection k2 with _ k2
   exact hT k2
theorem Rwo.rw {w : World} {lo hi : Nat} {T : TypeId} {sz : Nat} {a : Option Addr} {n c : Nat} {F : Nat → Value} (h : Rwo w lo hi T sz a n c F) : RwO w a n c sz F := by
 obtain ⟨a', c', e, _, _, hs⟩ := aT h.1
 injection e with e1 _ e3
 subst e1
 subst e3
 rcases h.1.2 with ⟨q, q0⟩ | ⟨g, cap, cur, q, _⟩
 ·injection q with q1 q2 q3
  exact .inl ⟨q1, q2, q3⟩
 ·injection q with q1 q2 q3
  rcases hs with hs | ⟨b, off, r1, r2⟩
  ·refine .inr ⟨g, 0, q1, ?_⟩
   by_cases hn : n = 0
   ·exact .inl hn
   ·refine .inr ⟨?_, fun j hj => by omega⟩
    have := (h.lt (g := g) (by rw [q1]; rfl)).2.2
    exact this
  ·exact .inr ⟨b, off, r1, .inr r2⟩
structure NdX where
 ni : Int
 mo : Int
 ep : Int
 si : Int
 kn : Bool
 lo : Int
 hi : Int
 la : Int
 te : Int
 us : Int
 AM : Nat → KT
 na : Nat
 QM : Nat → PT
 np : Nat
 hs : Bool
 ls : Int
 HM : Nat → VT
 nh : Nat
 se : Int
def ndV (x : NdX) (aa : Option Addr) (ac : Nat) (pa : Option Addr) (pc : Nat) (ha : Option Addr) (hc : Nat) : Array Value :=
 #[.int .i64 x.ni, .int .i64 x.mo, .int .i64 x.ep, .int .i64 x.si, .bool x.kn, .int .i64 x.lo, .int .i64 x.hi, .int .i64 x.la, .int .i64 x.te, .int .i64 x.us, .slice aa x.na ac, .slice pa x.np pc, .bool x.hs, .int .i64 x.ls, .slice ha x.nh hc, .int .i64 x.se]
def NdS (w : World) (A : Array Value) (x : NdX) : Prop := ∃ aa ac pa pc ha hc, A = ndV x aa ac pa pc ha hc ∧ (x.na ≤ maxLen ∧ x.np ≤ maxLen ∧ x.nh ≤ maxLen) ∧ RwO w aa x.na ac 4 (aA x.AM) ∧ RwO w pa x.np pc 5 (am x.QM) ∧ RwO w ha x.nh hc 2 (au x.HM)
theorem NdS.below {w w' : World} {A : Array Value} {x : NdX} (h : NdS w A x) (hb : Below w.heap.size w w') : NdS w' A x := by
 obtain ⟨aa, ac, pa, pc, ha, hc, e, hl, h1, h2, h3⟩ := h
 exact ⟨aa, ac, pa, pc, ha, hc, e, hl, h1.below hb, h2.below hb, h3.below hb⟩
theorem NdS.size {w : World} {A : Array Value} {x : NdX} (h : NdS w A x) : A.size = 16 := by
 obtain ⟨aa, ac, pa, pc, ha, hc, e, _⟩ := h
 rw [e]; rfl
theorem de (x : NdX) (aa : Option Addr) (ac : Nat) (pa : Option Addr) (pc : Nat) (ha : Option Addr) (hc : Nat) : ∀ u ∈ (ndV x aa ac pa pc ha hc).toList, u.oneCell' = true := by
 intro u hu
 simp only [ndV, List.mem_cons, List.not_mem_nil, or_false] at hu
 rcases hu with h | h | h | h | h | h | h | h | h | h | h | h | h | h | h | h <;> (subst h; rfl)
theorem NdS.one {w : World} {A : Array Value} {x : NdX} (h : NdS w A x) : ∀ u ∈ A.toList, u.oneCell' = true := by
 obtain ⟨aa, ac, pa, pc, ha, hc, e, _⟩ := h
 rw [e]; exact de x aa ac pa pc ha hc
def NdO (w : World) (l u : Nat) (A : Array Value) (x : NdX) : Prop := ∃ aa ac pa pc ha hc, A = ndV x aa ac pa pc ha hc ∧ (x.na ≤ 1048576 ∧ x.np ≤ 1048576 ∧ x.nh ≤ 1048576) ∧ Rwo w l u 88 4 aa x.na ac (aA x.AM) ∧ Rwo w l u 154 5 pa x.np pc (am x.QM) ∧ Rwo w l u 159 2 ha x.nh hc (au x.HM)
theorem NdO.below {w w' : World} {l u : Nat} {A : Array Value} {x : NdX} (h : NdO w l u A x) (hb : Below w.heap.size w w') : NdO w' l u A x := by
 obtain ⟨aa, ac, pa, pc, ha, hc, e, hl, h1, h2, h3⟩ := h
 exact ⟨aa, ac, pa, pc, ha, hc, e, hl, h1.below hb, h2.below hb, h3.below hb⟩
theorem NdO.btw {w w' : World} {l u l' u' : Nat} {A : Array Value} {x : NdX} (h : NdO w l u A x) (hb : Btw l' u' w w') (ho : u ≤ l' ∨ u' ≤ l) : NdO w' l u A x := by
 obtain ⟨aa, ac, pa, pc, ha, hc, e, hl, h1, h2, h3⟩ := h
 exact ⟨aa, ac, pa, pc, ha, hc, e, hl, h1.btw hb ho, h2.btw hb ho, h3.btw hb ho⟩
theorem NdO.src {w : World} {l u : Nat} {A : Array Value} {x : NdX} (h : NdO w l u A x) : NdS w A x := by
 obtain ⟨aa, ac, pa, pc, ha, hc, e, hl, h1, h2, h3⟩ := h
 refine ⟨aa, ac, pa, pc, ha, hc, e, ?_, h1.rw, h2.rw, h3.rw⟩
 unfold maxLen
 omega
theorem NdO.size {w : World} {l u : Nat} {A : Array Value} {x : NdX} (h : NdO w l u A x) : A.size = 16 := h.src.size
theorem NdO.one {w : World} {l u : Nat} {A : Array Value} {x : NdX} (h : NdO w l u A x) : ∀ v ∈ A.toList, v.oneCell' = true := h.src.one
def NdM (w : World) (A : Array Value) (x : NdX) (q : Int) : Prop := ∃ aa ac pa pc ha hc, A = ndV x aa ac pa pc ha hc ∧ (x.na ≤ 1048576 ∧ x.np ≤ 1048576 ∧ x.nh ≤ 1048576) ∧ az w aa (x.na * 4) (cj q) ∧ az w pa (x.np * 5) (bA (q + (x.na : Int) * 4)) ∧ az w ha (x.nh * 2) (bW (q + (x.na : Int) * 4 + (x.np : Int) * 5))
theorem NdM.below {w w' : World} {A : Array Value} {x : NdX} {q : Int} (h : NdM w A x q) (hb : Below w.heap.size w w') : NdM w' A x q := by
 obtain ⟨aa, ac, pa, pc, ha, hc, e, hl, h1, h2, h3⟩ := h
 exact ⟨aa, ac, pa, pc, ha, hc, e, hl, h1.below hb, h2.below hb, h3.below hb⟩
theorem lL (a : Option Addr) (n c : Nat) (Z : Int) (w : World) (hm : n ≤ maxLen) (h0 : 0 ≤ Z) (h1 : Z ≤ 1048576) :
 Calls Tryz.prog 24 #[.slice a n c, .int .i64 Z] w fun e w' => ∃ L : Int, e = .returned (.int .i64 L) ∧ (0 ≤ L → n ≤ 1048576 ∧ L ≤ 1048576) ∧ Below w.heap.size w w' := by
 refine (jE a n c Z w hm h0 h1).mono ?_
 rintro e w' ⟨rfl, rfl⟩
 refine ⟨_, rfl, fun h => ?_, Below.refl _ _⟩
 split at h
 ·rename_i hq; rw [if_pos hq]; constructor <;> omega
 ·omega
theorem pn (ep us : Int) (a : Option Addr) (n c : Nat) (Z : Int) (w : World) (hm : n ≤ maxLen) (h0 : 0 ≤ Z) (h1 : Z ≤ 1048576) :
 Calls Tryz.prog 21 #[.agg #[.int .i64 ep, .int .i64 us, .slice a n c], .int .i64 Z] w fun e w' => ∃ L : Int, e = .returned (.int .i64 L) ∧ (0 ≤ L → n ≤ 1048576 ∧ L ≤ 1048576) ∧ Below w.heap.size w w' := by
 have A0 := Below.nw w (.cells #[.int .i64 ep, .int .i64 us, .slice a n c] 26)
 by_cases h : (n : Int) ≤ Z
 ·have hneg : ¬ (Z - (n : Int) < 0) := by omega
  go_enter Tryz.func21, Tryz.ntmps21
  go_wp2_with fail
  refine (eW _ _ _ _ _ hm h0 h1).mono ?_
  rintro e w1 ⟨rfl, rfl⟩
  rw [if_pos h]
  go_wp2_with fail
  go_ret
  exact ⟨_, rfl, fun _ => ⟨by omega, by omega⟩, A0⟩
 ·go_enter Tryz.func21, Tryz.ntmps21
  go_wp2_with fail
  refine (eW _ _ _ _ _ hm h0 h1).mono ?_
  rintro e w1 ⟨rfl, rfl⟩
  rw [if_neg (Int.not_le.2 h)]
  go_wp2_with fail
  go_ret
  exact ⟨_, rfl, fun h => absurd h (by decide), A0⟩
theorem fF.kept {w w' : World} {q : Option Nat} {j : Nat} {k fr tu no lo hi sl : Int} {s : ByteArray} (h : fF w j k fr tu no lo hi sl s) (hg : w.grownBy w' q) (hq : some j ≠ q) : fF w' j k fr tu no lo hi sl s := by
 obtain ⟨h0, h1, h2, h3, h4, h5, h6, h7, h8⟩ := h
 have cc : ∀ i, w'.cell? ⟨j, i, none⟩ = w.cell? ⟨j, i, none⟩ := fun i => cB hg h0 hq
 exact ⟨Nat.lt_of_lt_of_le h0 hg.size, by rw [cc]; exact h1, by rw [cc]; exact h2, by rw [cc]; exact h3, by rw [cc]; exact h4, by rw [cc]; exact h5, by rw [cc]; exact h6, by rw [cc]; exact h7, by rw [cc]; exact h8⟩
theorem nd (ep us : Int) (a : Option Addr) (n c : Nat) (Z : Int) (w : World) (hm : n ≤ maxLen) (h0 : 0 ≤ Z) (h1 : Z ≤ 1048576) :
 Calls Tryz.prog 22 #[.agg #[.int .i64 ep, .int .i64 us, .slice a n c], .int .i64 Z] w fun e w' => ∃ L : Int, e = .returned (.int .i64 L) ∧ (0 ≤ L → n ≤ 1048576 ∧ L ≤ 1048576) ∧ Below w.heap.size w w' := by
 have A0 := Below.nw w (.cells #[.int .i64 ep, .int .i64 us, .slice a n c] 37)
 by_cases h : (n : Int) ≤ Z
 ·have hneg : ¬ (Z - (n : Int) < 0) := by omega
  go_enter Tryz.func22, Tryz.ntmps22
  go_wp2_with fail
  refine (gz _ _ _ _ _ hm h0 h1).mono ?_
  rintro e w1 ⟨rfl, rfl⟩
  rw [if_pos h]
  go_wp2_with fail
  go_ret
  exact ⟨_, rfl, fun _ => by omega, A0⟩
 ·go_enter Tryz.func22, Tryz.ntmps22
  go_wp2_with fail
  refine (gz _ _ _ _ _ hm h0 h1).mono ?_
  rintro e w1 ⟨rfl, rfl⟩
  rw [if_neg (Int.not_le.2 h)]
  go_wp2_with fail
  go_ret
  exact ⟨_, rfl, fun h => absurd h (by decide), A0⟩
theorem nc (a : Option Addr) (n c : Nat) (Z : Int) (w : World) (hm : n ≤ maxLen) (h0 : 0 ≤ Z) (h1 : Z ≤ 1048576) :
 Calls Tryz.prog 23 #[.slice a n c, .int .i64 Z] w fun e w' => ∃ L : Int, e = .returned (.int .i64 L) ∧ (0 ≤ L → n ≤ 1048576 ∧ L ≤ 1048576) ∧ Below w.heap.size w w' := by
 refine (lM a n c Z w hm h0 h1).mono ?_
 rintro e w' ⟨rfl, rfl⟩
 refine ⟨_, rfl, fun h => ?_, Below.refl _ _⟩
 split at h
 ·rename_i hq; rw [if_pos hq]; constructor <;> omega
 ·omega
theorem pm (ni mo ep si : Int) (kn : Bool) (lo hi la te us : Int) (aa : Option Addr) (na ac : Nat) (AM : Nat → KT) (pa : Option Addr) (np pc : Nat) (QM : Nat → PT) (hs : Bool) (ls : Int) (ha : Option Addr) (nh hc : Nat) (HM : Nat → VT) (se : Int) (Z : Int) (w : World) (hna : na ≤ maxLen) (hnp : np ≤ maxLen) (hnh : nh ≤ maxLen) (h0 : 0 ≤ Z) (h1 : Z ≤ 1048576) :
 Calls Tryz.prog 6 #[.agg #[.int .i64 ni, .int .i64 mo, .int .i64 ep, .int .i64 si, .bool kn, .int .i64 lo, .int .i64 hi, .int .i64 la, .int .i64 te, .int .i64 us, .slice aa na ac, .slice pa np pc, .bool hs, .int .i64 ls, .slice ha nh hc, .int .i64 se], .int .i64 Z] w fun e w' => ∃ L : Int, e = .returned (.int .i64 L) ∧ (0 ≤ L → na ≤ 1048576 ∧ np ≤ 1048576 ∧ nh ≤ 1048576 ∧ L ≤ 1048576) ∧ Below w.heap.size w w' := by
 have B := Below.nw w (.cells #[.int .i64 ni, .int .i64 mo, .int .i64 ep, .int .i64 si, .bool kn, .int .i64 lo, .int .i64 hi, .int .i64 la, .int .i64 te, .int .i64 us, .slice aa na ac, .slice pa np pc, .bool hs, .int .i64 ls, .slice ha nh hc, .int .i64 se] 43)
 have N := aE.new w (.int .i64 ni) (.int .i64 mo) (.int .i64 ep) (.int .i64 si) (.bool kn) (.int .i64 lo) (.int .i64 hi) (.int .i64 la) (.int .i64 te) (.int .i64 us) (.slice aa na ac) (.slice pa np pc) (.bool hs) (.int .i64 ls) (.slice ha nh hc) (.int .i64 se) 43
 have C1 := fun w' => nd te us aa na ac Z w' hna h0 h1
 have C2 := fun (Z : Int) (h0 : 0 ≤ Z) (h1 : Z ≤ 1048576) w' => nc pa np pc Z w' hnp h0 h1
 have C3 := fun (Z : Int) (h0 : 0 ≤ Z) (h1 : Z ≤ 1048576) w' => lL ha nh hc Z w' hnh h0 h1
 clear hna hnp hnh h0 h1
 go_enter Tryz.func6, Tryz.ntmps6
 go_upto_region 1 with fail
 generalize w.alloc (.cells #[.int .i64 ni, .int .i64 mo, .int .i64 ep, .int .i64 si, .bool kn, .int .i64 lo, .int .i64 hi, .int .i64 la, .int .i64 te, .int .i64 us, .slice aa na ac, .slice pa np pc, .bool hs, .int .i64 ls, .slice ha nh hc, .int .i64 se] 43) = v at *
 have n0 : _ ∧ _ := N
 go_wp2_with fail
 refine (C1 _).mono ?_
 rintro e v1 ⟨L1, rfl, hL, hb⟩
 clear n0
 replace B := B.trans (hb.mono B.size)
 replace N := N.below hb
 clear hb C1
 by_cases z1 : L1 < 0
 ·clear hL
  go_wp2_with fail
  go_ret
  exact ⟨-1, rfl, fun h => absurd h (by decide), B⟩
 have F1 : Hid (na ≤ 1048576 ∧ L1 ≤ 1048576) := hL (by omega)
 clear hL
 have n0 : _ ∧ _ := N
 go_wp2_with fail
 refine (C2 _ (by omega) F1.out.2 _).mono ?_
 rintro e v2 ⟨L2, rfl, hL, hb⟩
 clear n0
 replace B := B.trans (hb.mono B.size)
 replace N := N.below hb
 clear hb C2
 by_cases z2 : L2 < 0
 ·clear hL
  go_wp2_with fail
  go_ret
  exact ⟨-1, rfl, fun h => absurd h (by decide), B⟩
 have F2 : Hid (np ≤ 1048576 ∧ L2 ≤ 1048576) := hL (by omega)
 clear hL
 have n0 : _ ∧ _ := N
 go_wp2_with fail
 refine (C3 _ (by omega) F2.out.2 _).mono ?_
 rintro e v3 ⟨L3, rfl, hL, hb⟩
 clear n0
 replace B := B.trans (hb.mono B.size)
 replace N := N.below hb
 clear hb C3
 by_cases z3 : L3 < 0
 ·clear hL
  go_wp2_with fail
  go_ret
  exact ⟨-1, rfl, fun h => absurd h (by decide), B⟩
 have F3 : Hid (nh ≤ 1048576 ∧ L3 ≤ 1048576) := hL (by omega)
 clear hL
 clear N
 go_wp2_with fail
 go_ret
 exact ⟨L3, rfl, fun _ => ⟨F1.out.1, F2.out.1, F3.out.1, F3.out.2⟩, B⟩
theorem fJ {w w' : World} (h : Below w.heap.size w w') : w.grownBy w' none := ⟨h.os, h.tape, h.output, h.size, fun k hk _ => h.block k hk⟩
theorem pV {w v w' : World} {o : Option Nat} (h : Below w.heap.size w v) (k : v.grownBy w' o) : w.grownBy w' o :=
 ⟨k.os.trans h.os, k.tape.trans h.tape, k.output.trans h.output, Nat.le_trans h.size k.size, fun i hi hne => (k.block i (Nat.lt_of_lt_of_le hi h.size) hne).trans (h.block i hi)⟩
theorem gO (a : Option Addr) (n c base : Nat) (q0 : Int) (xs : List Value) (w : World) (hn : n ≤ 1048576) (hq : 0 < q0) (hq1 : q0 ≤ 1073741824) (h : w.ownsRow base 88 4 (.slice a n c) n xs) :
 Calls Tryz.prog 99 #[.slice a n c, .int .i64 q0] w fun e w' => e = .returned (.int .i64 (q0 + (n : Int) * 4)) ∧ az w' a (n * 4) (cj q0) ∧ w.grownBy w' (Value.slice a n c).ownBlock := by
 rcases h.2 with ⟨he, h0⟩ | ⟨g, cap, cur, he, _⟩
 ·simp at he
  obtain ⟨rfl, rfl, rfl⟩ := he
  exact (gQ none 0 q0 w).mono fun e w' ⟨h1, h2⟩ => ⟨by rw [h1]; simp, .inl (by omega), h2 ▸ fJ (Below.refl _ _)⟩
 ·simp at he
  obtain ⟨rfl, rfl⟩ := he
  obtain ⟨h1, h2, _, h3⟩ := d9 (cj q0) h
  exact (jd g (c * 4) n c q0 w hn hq hq1 (Nat.mul_le_mul_right _ h2) h3).mono fun e w' ⟨r1, r2, r3⟩ => ⟨r1, .inr ⟨g, 0, rfl, r2.cs (Nat.mul_le_mul_right _ h2)⟩, r3.grK⟩
theorem kY (ep us : Int) (a : Option Addr) (n c base : Nat) (q0 : Int) (xs : List Value) (w : World) (hn : n ≤ 1048576) (hq : 0 < q0) (hq1 : q0 ≤ 1073741824) (h : w.ownsRow base 88 4 (.slice a n c) n xs) :
 Calls Tryz.prog 54 #[.agg #[.int .i64 ep, .int .i64 us, .slice a n c], .int .i64 q0] w fun e w' => e = .returned (.int .i64 (q0 + (n : Int) * 4)) ∧ az w' a (n * 4) (cj q0) ∧ w.grownBy w' (Value.slice a n c).ownBlock := by
 have A0 := Below.nw w (.cells #[.int .i64 ep, .int .i64 us, .slice a n c] 52)
 have C := gO a n c base q0 xs _ hn hq hq1 (World.ownsRow.alloc h (.cells #[.int .i64 ep, .int .i64 us, .slice a n c] 52))
 clear h
 go_enter Tryz.func54, Tryz.ntmps54
 go_wp2_with fail
 refine C.mono ?_
 rintro e w1 ⟨rfl, R1, hg⟩
 have G := pV A0 hg
 go_wp2_with fail
 go_ret
 exact ⟨rfl, R1, G⟩
theorem ku (ep us : Int) (a : Option Addr) (n c : Nat) (q0 : Int) (w : World) (hn : n ≤ 1048576) (hq : 0 < q0) (hq1 : q0 ≤ 1073741824) (h : az w a (n * 4) (cj q0)) :
 Calls Tryz.prog 58 #[.agg #[.int .i64 ep, .int .i64 us, .slice a n c], .int .i64 q0] w fun e w' => e = .returned (.int .i64 (q0 + (n : Int) * 4)) ∧ Below w.heap.size w w' := by
 have A0 := Below.nw w (.cells #[.int .i64 ep, .int .i64 us, .slice a n c] 52)
 have C := i3 a n c q0 _ hn hq hq1 (h.below A0)
 have hk : ¬ (q0 + (n : Int) * 4 < 0) := by omega
 clear h
 go_enter Tryz.func58, Tryz.ntmps58
 go_wp2_with fail
 refine C.mono ?_
 rintro e w1 ⟨rfl, rfl⟩
 go_wp2_with fail
 go_ret
 exact ⟨rfl, A0⟩
theorem eE {a : Option Addr} {n c b off : Nat} (h : a = some ⟨b, off, none⟩) : (Value.slice a n c).ownBlock = some b := by subst h; rfl
def mkN (x : NdX) (q : Int) : Int := q + (x.na : Int) * 4 + (x.np : Int) * 5 + (x.nh : Int) * 2
attribute [-go_sem] loadCells in
theorem iw (A : Array Value) (x : NdX) (q : Int) (l u : Nat) (w : World) (h : NdO w l u A x) (hq : 0 < q) (hq1 : q ≤ 16777216) :
 Calls Tryz.prog 15 #[.agg A, .int .i64 q] w fun e w' => e = .returned (.int .i64 (mkN x q)) ∧ NdM w' A x q ∧ Btw l u w w' := by
 obtain ⟨aa, ac, pa, pc, ha, hc, rfl, hl, r1, r2, r3⟩ := h
 have B := Below.nw w (.cells (ndV x aa ac pa pc ha hc) 57)
 have N := Bo.new w (ndV x aa ac pa pc ha hc) 57
 have l1 : ∀ g, (Value.slice aa x.na ac).ownBlock = some g → l ≤ g ∧ g < u ∧ g < w.heap.size := fun g hg => r1.lt hg
 have l2 : ∀ g, (Value.slice pa x.np pc).ownBlock = some g → l ≤ g ∧ g < u ∧ g < w.heap.size := fun g hg => r2.lt hg
 have l3 : ∀ g, (Value.slice ha x.nh hc).ownBlock = some g → l ≤ g ∧ g < u ∧ g < w.heap.size := fun g hg => r3.lt hg
 have n12 := r1.ne r2 (by decide)
 have n13 := r1.ne r3 (by decide)
 have n23 := r2.ne r3 (by decide)
 have n21 := r2.ne r1 (by decide)
 have n31 := r3.ne r1 (by decide)
 have n32 := r3.ne r2 (by decide)
 have p1 := r1.below B
 have p2 := r2.below B
 have p3 := r3.below B
 clear r1 r2 r3
 have T0 : Btw l u w _ := Btw.ofBelow B
 go_enter Tryz.func15, Tryz.ntmps15
 go_upto_region 1 with fail
 generalize w.alloc (.cells (ndV x aa ac pa pc ha hc) 57) = v at *
 have hL : (loadCells ⟨w.heap.size, 8, none⟩ 3).run Tryz.prog v = .ok #[.int .i64 x.te, .int .i64 x.us, .slice aa x.na ac] v := N.loadAt (P := Tryz.prog) 8 3 (show 8 + 3 ≤ 16 by decide)
 go_wp2_with (rw [hL])
 refine (kY x.te x.us aa x.na ac l q _ v hl.1 hq (by omega) p1.1).mono ?_
 rintro e v1 ⟨rfl, s1, g1⟩
 clear hL p1
 replace N := N.kept g1 (fun e => by have := (l1 _ e.symm).2.2; omega)
 replace p2 := p2.kept g1 n21
 replace p3 := p3.kept g1 n31
 replace T0 := T0.trans (Btw.ofGrown g1 fun g e => ⟨(l1 g e).1, (l1 g e).2.1⟩)
 clear g1 B
 have c11 : v1.cell? ⟨w.heap.size, 11, none⟩ = some (.slice pa x.np pc) := N.cell rfl
 go_wp2_with fail
 refine (gR pa x.np pc l (q + (x.na : Int) * 4) _ v1 hl.2.1 (by omega) (by omega) p2.1).mono ?_
 rintro e v2 ⟨rfl, s2, g2⟩
 clear c11 p2
 replace N := N.kept g2 (fun e => by have := (l2 _ e.symm).2.2; omega)
 replace s1 := az.keptK s1 g2 (fun b off e => n12 b (eE e))
 replace p3 := p3.kept g2 n32
 replace T0 := T0.trans (Btw.ofGrown g2 fun g e => ⟨(l2 g e).1, (l2 g e).2.1⟩)
 clear g2
 have c14 : v2.cell? ⟨w.heap.size, 14, none⟩ = some (.slice ha x.nh hc) := N.cell rfl
 go_wp2_with fail
 refine (fZ ha x.nh hc l (q + (x.na : Int) * 4 + (x.np : Int) * 5) _ v2 hl.2.2 (by omega) (by omega) p3.1).mono ?_
 rintro e v3 ⟨rfl, s3, g3⟩
 clear c14 p3
 replace s1 := az.keptK s1 g3 (fun b off e => n13 b (eE e))
 replace s2 := az.keptK s2 g3 (fun b off e => n23 b (eE e))
 replace T0 := T0.trans (Btw.ofGrown g3 fun g e => ⟨(l3 g e).1, (l3 g e).2.1⟩)
 clear g3 N
 go_wp2_with fail
 go_ret
 exact ⟨rfl, ⟨aa, ac, pa, pc, ha, hc, rfl, hl, s1, s2, s3⟩, T0⟩
attribute [-go_sem] loadCells in
theorem ip (A : Array Value) (x : NdX) (q : Int) (w : World) (h : NdM w A x q) (hq : 0 < q) (hq1 : q ≤ 16777216) :
 Calls Tryz.prog 17 #[.agg A, .int .i64 q] w fun e w' => e = .returned (.int .i64 (mkN x q)) ∧ Below w.heap.size w w' := by
 obtain ⟨aa, ac, pa, pc, ha, hc, rfl, hl, s1, s2, s3⟩ := h
 have B := Below.nw w (.cells (ndV x aa ac pa pc ha hc) 57)
 have N := Bo.new w (ndV x aa ac pa pc ha hc) 57
 have p1 := s1.below B
 have p2 := s2.below B
 have p3 := s3.below B
 clear s1 s2 s3
 have h1 : ¬ (q + (x.na : Int) * 4 < 0) := by omega
 have h2 : ¬ (q + (x.na : Int) * 4 + (x.np : Int) * 5 < 0) := by omega
 have h3 : ¬ (q + (x.na : Int) * 4 + (x.np : Int) * 5 + (x.nh : Int) * 2 < 0) := by omega
 go_enter Tryz.func17, Tryz.ntmps17
 go_upto_region 1 with fail
 generalize w.alloc (.cells (ndV x aa ac pa pc ha hc) 57) = v at *
 have hL : (loadCells ⟨w.heap.size, 8, none⟩ 3).run Tryz.prog v = .ok #[.int .i64 x.te, .int .i64 x.us, .slice aa x.na ac] v := N.loadAt (P := Tryz.prog) 8 3 (show 8 + 3 ≤ 16 by decide)
 go_wp2_with (rw [hL])
 refine (ku x.te x.us aa x.na ac q v hl.1 hq (by omega) p1).mono ?_
 rintro e v1 ⟨rfl, hb⟩
 clear hL p1
 replace N := N.below hb
 replace p2 := p2.below hb
 replace p3 := p3.below hb
 replace B := B.trans (hb.mono B.size)
 clear hb
 have c11 : v1.cell? ⟨w.heap.size, 11, none⟩ = some (.slice pa x.np pc) := N.cell rfl
 go_wp2_with fail
 refine (gL pa x.np pc (q + (x.na : Int) * 4) v1 hl.2.1 (by omega) (by omega) p2).mono ?_
 rintro e v2 ⟨rfl, rfl⟩
 clear c11
 have c14 : v1.cell? ⟨w.heap.size, 14, none⟩ = some (.slice ha x.nh hc) := N.cell rfl
 go_wp2_with fail
 refine (fM ha x.nh hc (q + (x.na : Int) * 4 + (x.np : Int) * 5) v1 hl.2.2 (by omega) (by omega) p3).mono ?_
 rintro e v2 ⟨rfl, rfl⟩
 clear c14
 go_wp2_with fail
 go_ret
 exact ⟨rfl, B⟩
theorem lu (w : World) (T : TypeId) : ∀ (us : List Value) (Z : Array Value) (o : Nat), aF (w.alloc (.cells Z T)) w.heap.size o us = w.alloc (.cells (spl Z o us) T)
 | [], _, _ => rfl
 | u :: us, Z, o => by
  rw [aF, World.setCell_alloc_new]
  exact lu w T us _ (o + 1)
theorem bg {P : Program} (w : World) (Z U : Array Value) (T : TypeId) (hz : U.size = Z.size) (hu : ∀ u ∈ U.toList, u.oneCell' = true) :
 (storeCells ⟨w.heap.size, 0, none⟩ U.toList).run P (w.alloc (.cells Z T)) = .ok () (w.alloc (.cells U T)) := by
 rw [Bo.store (P := P) U.toList (w := w.alloc (.cells Z T)) (A := Z) 0 0 (Bo.new w Z T) rfl (by simp; omega) hu, lu, iD Z U hz]
theorem ay (us : List Value) (w : World) (o k : Nat) : Btw k (k + 1) w (aF w k o us) := by
 have h := lr us w w o (But.refl k w)
 exact ⟨h.1, h.2.1, h.2.2.1, h.2.2.2.1, fun i hi ho => h.2.2.2.2 i hi (by omega)⟩
theorem Rwo.low {w : World} {l u l' : Nat} {T : TypeId} {sz : Nat} {a : Option Addr} {n c : Nat} {F : Nat → Value} (h : Rwo w l u T sz a n c F) (hl : l' ≤ l) : Rwo w l' w.heap.size T sz a n c F := by
 refine ⟨⟨h.1.1, ?_⟩, fun g hg => (h.lt hg).2.2⟩
 rcases h.1.2 with q | ⟨g, cap, cur, e, h1, h2⟩
 ·exact .inl q
 ·exact .inr ⟨g, cap, cur, e, Nat.le_trans hl h1, h2⟩
theorem NdO.low {w : World} {l u l' : Nat} {A : Array Value} {x : NdX} (h : NdO w l u A x) (hl : l' ≤ l) : NdO w l' w.heap.size A x := by
 obtain ⟨aa, ac, pa, pc, ha, hc, e, hb, h1, h2, h3⟩ := h
 exact ⟨aa, ac, pa, pc, ha, hc, e, hb, h1.low hl, h2.low hl, h3.low hl⟩
end Go.Proofs.YtikbjljkakabdaaGreat
