/- Contracts of Rebase, Learn, Narrow, WidthAt. Rows that the library sor -/
import Derived.Test.YtikbjljkakabdaaGreatMB0
import Derived.Test.YtikbjljkakabdaaGreatMB20
import Derived.Test.YtikbjljkakabdaaGreatMB31
namespace Go.Proofs.YtikbjljkakabdaaGreat
open Go.RowKit
set_option linter.unusedVariables false
set_option maxRecDepth 100000
set_option maxHeartbeats 16000000
theorem j6 (kn : Bool) (lo hi a n d c : Int) : (crP kn lo hi a n d c = false ∧ crC kn lo hi a n d c = 1) ∨ (crP kn lo hi a n d c = true ∧ kn = false ∧ crC kn lo hi a n d c = 2) ∨ (crP kn lo hi a n d c = true ∧ kn = true ∧ (crC kn lo hi a n d c = 3 ∨ crC kn lo hi a n d c = 4 ∨ crC kn lo hi a n d c = 0)) := by
 cases hp : crP kn lo hi a n d c
 ·exact .inl ⟨rfl, (pP hp).1⟩
 cases kn
 ·exact .inr (.inl ⟨rfl, rfl, (pQ hp).1⟩)
 refine .inr (.inr ⟨rfl, rfl, ?_⟩)
 by_cases h4 : c < a
 ·exact .inl (nK hp h4).1
 cases h5 : btB n d (c - a)
 ·exact .inr (.inl (nL hp h4 h5).1)
 cases h6 : bv lo hi (upI ((c - a) * d) (d + n)) (dnI ((c - a) * d) (d - n))
 ·exact .inr (.inl (nM hp h4 h5 h6).1)
 ·exact .inr (.inr (nJ hp h4 h5 h6).1)
theorem cr_ok {lo hi a n d c : Int} {kn : Bool} (h : crC kn lo hi a n d c = 0) : kn = true ∧ okT c = true ∧ okI (crL kn lo hi a n d c) (crH kn lo hi a n d c) = true := by
 rcases j6 kn lo hi a n d c with ⟨_, e⟩ | ⟨_, _, e⟩ | ⟨hp, hk, _⟩
 ·rw [e] at h; exact absurd h (by decide)
 ·rw [e] at h; exact absurd h (by decide)
 subst hk
 have p4 := (pR hp).2.2.2
 refine ⟨rfl, p4, ?_⟩
 by_cases h4 : c < a
 ·rw [(nK hp h4).1] at h; exact absurd h (by decide)
 cases h5 : btB n d (c - a)
 ·rw [(nL hp h4 h5).1] at h; exact absurd h (by decide)
 cases h6 : bv lo hi (upI ((c - a) * d) (d + n)) (dnI ((c - a) * d) (d - n))
 ·rw [(nM hp h4 h5 h6).1] at h; exact absurd h (by decide)
 ·obtain ⟨_, e2, e3⟩ := nJ hp h4 h5 h6
  rw [e2, e3]; unfold bv at h6; simp at h6; exact h6.2
theorem du (lo hi c : Int) (w : World) :
 Calls Tryz.prog 110 #[.agg #[.int .i64 lo, .int .i64 hi], .int .i64 c] w fun e w' => e = .returned (.agg #[.bool true, .int .i64 lo, .int .i64 hi, .int .i64 c]) ∧ Below w.heap.size w w' := by
 go_enter Tryz.func110, Tryz.ntmps110
 go_wp2
 exact bodyPost_ret (v := .agg #[.bool true, .int .i64 lo, .int .i64 hi, .int .i64 c]) (by simp (maxDischargeDepth := 6) [results, Tryz.results110, go_sem, *]) rfl ⟨rfl, zB⟩
end Go.Proofs.YtikbjljkakabdaaGreat
namespace Go.Proofs.YtikbjljkakabdaaGreat
open Go.RowKit
open Go.Sort Go.Shelf Go.Lib
set_option linter.unusedVariables false
set_option maxRecDepth 100000
set_option maxHeartbeats 16000000
theorem oI {α : Type} [Inhabited α] (enc : α → Value) {w : World} {g n : Nat} {os : Array Obj} {cur : Array Value} {e : TypeId} {fr : Nat × Nat} (d : Array α) (hb : w.heap[g]? = some (.cells cur e fr)) :
 (grow (putRow enc (Go.Sort.ahead w n) g 0 d) os).heap[g]? = some (.cells (putCells enc 0 d cur) e fr) := by
 have hg : g < w.heap.size := (Array.getElem?_eq_some_iff.1 hb).1
 rw [heap_grow_old _ _ (by simpa using hg)]
 simp [putRow, mapBlock, Go.Sort.ahead, Array.getElem?_modify, hb, onCells]
theorem mh {α : Type} [Inhabited α] (enc : α → Value) {w : World} {g n : Nat} {os : Array Obj} (d : Array α) : w.grownBy (grow (putRow enc (Go.Sort.ahead w n) g 0 d) os) (some g) := by
 refine ⟨rfl, rfl, rfl, by simp, fun k hk hne => ?_⟩
 rw [heap_grow_old _ _ (by simpa using hk)]
 have : g ≠ k := fun e => hne (by rw [e])
 simp [putRow, mapBlock, Go.Sort.ahead, Array.getElem?_modify, this]
theorem po {α : Type} [Inhabited α] (enc : α → Value) (cur : Array Value) (ts : List α) (h : ts.length ≤ cur.size) : (putCells enc 0 ts.toArray cur).toList.take ts.length = ts.map enc := by
 apply List.ext_getElem?
 intro j
 by_cases hj : j < ts.length
 ·rw [List.getElem?_take_of_lt hj, Array.getElem?_toList]
  simp [putCells, hj, show j < cur.size by omega]
 ·rw [List.getElem?_take_eq_none (by omega), List.getElem?_eq_none (by simp; omega)]
theorem qB {α : Type} [Inhabited α] (enc : α → Value) {w : World} {base g cap n N s : Nat} {e : TypeId} {os : Array Obj} {cur : Array Value} {ts : List α} (hl : ts.length = N * s) (hbase : base ≤ g) (hb : w.heap[g]? = some (.cells cur e (0, 0))) (h1 : N ≤ cap) (h2 : cap ≤ maxLen) (h3 : cur.size = cap * s) :
 (grow (putRow enc (Go.Sort.ahead w n) g 0 ts.toArray) os).ownsRow base e s (.slice (some ⟨g, 0, none⟩) N cap) N (ts.map enc) :=
 ⟨by simp [hl], .inr ⟨g, cap, _, rfl, hbase, oI enc _ hb, h1, h2, by simp [putCells, h3], by rw [← hl]; exact po enc cur ts (by rw [hl, h3]; exact Nat.mul_le_mul_right _ h1)⟩⟩
theorem mi {α : Type} [Inhabited α] (enc : α → Value) {w : World} {g N : Nat} {cur : Array Value} {e : TypeId} {ss : List α} (hN : ss.length = N) (hb : w.heap[g]? = some (.cells cur e (0, 0))) (ht : cur.toList.take N = ss.map enc) : Holds enc w g 0 ss.toArray := by
 subst hN
 intro j hj
 have hj' : j < ss.length := by simpa using hj
 refine ⟨?_, by simp [World.frozen?, hb]⟩
 have h1 : (cur.toList.take ss.length)[j]? = (ss.map enc)[j]? := by rw [ht]
 rw [List.getElem?_take_of_lt hj'] at h1
 simp only [World.cell?, hb, Nat.zero_add]
 simp only [Option.isSome_none, Bool.false_eq_true, if_false]
 rw [← Array.getElem?_toList, h1]
 simp [hj']
instance : Inhabited PT := ⟨zP⟩
theorem qZ (p : PT) (j : Nat) (hj : j < 5) : (kf p)[j]! = en p j := by
 match j, hj with
 | 0, _ => rfl
 | 1, _ => rfl
 | 2, _ => rfl
 | 3, _ => rfl
 | 4, _ => rfl
theorem im (L : List PT) : flatK kf 5 L.toArray = (bP L).toArray := by
 apply Array.ext
 ·simp [bP]
 ·intro t h1 h2
  have ht : t < L.length * 5 := by simpa using h1
  simp only [flatK, Array.getElem_map, Array.getElem_range]
  simp only [bP, List.getElem_toArray, List.getElem_map, List.getElem_range]
  rw [qZ _ _ (Nat.mod_lt _ (by decide)), am]
  congr 1
  have hd : t / 5 < L.length := by omega
  simp [gP, hd]
theorem lq (L : List PT) : (bP L).length = L.length * 5 := by simp [bP]
theorem ltP (x y : PT) : ltOf l9 x y = decide (x.1 < y.1) := by
 unfold ltOf l9 Go.Lib.compareInt
 by_cases h1 : x.1 < y.1
 ·simp [h1]
 ·by_cases h2 : y.1 < x.1 <;> simp [h1, h2]
theorem swoP : SWO (ltOf l9) where
 irrefl x := by rw [ltP]; simp
 trans x y z h1 h2 := by rw [ltP] at *; simp at *; omega
 ntrans x y z h1 h2 := by rw [ltP] at *; simp at *; omega
theorem lC {F : Int → Option PT} {L acc : List PT} (hF : FLP F L) (hp : acc.Perm L) {d : Array PT} (h1 : PermIn 0 acc.toArray.size acc.toArray d) (h2 : SortedIn (ltOf l9) 0 acc.toArray.size d) : d.toList = L := by
 obtain ⟨e1, _, e3⟩ := h1
 have q1 : d.toList.Perm acc := by
  have : d.extract 0 acc.toArray.size = d := by rw [← e1]; simp
  rw [this] at e3
  simpa using e3
 refine hF.sorted (q1.trans hp) ?_
 rw [List.pairwise_iff_getElem]
 intro i j hi hj hij
 have h := h2 i j (Nat.zero_le _) hij (by rw [← e1]; simpa using hj)
 rw [ltP] at h
 have a1 : d[i]! = d.toList[i] := by simp [getElem!_pos d i (by simpa using hi)]
 have a2 : d[j]! = d.toList[j] := by simp [getElem!_pos d j (by simpa using hj)]
 rw [a1, a2] at h
 simpa using h
theorem aggP (w : World) : (isAgg 154).run Tryz.prog w = .ok true w := by kernel_rfl
theorem sizP (w : World) : (Go.sizeOf 154).run Tryz.prog w = .ok 5 w := by kernel_rfl
theorem pe {F : Int → Option PT} {L acc : List PT} (hF : FLP F L) (hp : acc.Perm L) (base g cap : Nat) (w : World) (hown : w.ownsRow base 154 5 (.slice (some ⟨g, 0, none⟩) acc.length cap) acc.length (bP acc)) (h12 : acc.length ≤ 12) :
 Calls Tryz.prog 185 #[.slice (some ⟨g, 0, none⟩) acc.length cap, .func (.func 186) #[] #[]] w fun e w' => e = .returned (.tuple #[]) ∧ w'.ownsRow base 154 5 (.slice (some ⟨g, 0, none⟩) acc.length cap) L.length (bP L) ∧ w.grownBy w' (some g) := by
 rcases hown.2 with ⟨he, _⟩ | ⟨g', cap', cur, he, hbase, hb, h1, h2, h3, h4⟩
 ·simp at he
 simp at he
 obtain ⟨rfl, rfl⟩ := he
 have eg : ∀ args w, (callFunc 186 args).run Tryz.prog w = .ok (.enter 186 args) w := enters_of Tryz.func186 (by kernel_rfl) rfl
 have hH : HoldsK kf 5 w g 0 acc.toArray := by
  rw [HoldsK, im]
  exact mi id (by rw [lq]) hb (by rw [List.map_id]; exact h4)
 have hcon := Go.Proofs.AnyQ.slices_SortFunc_small_sorted sortF 5 aggP sizP kf (fun _ => rfl) (fun x v hv => by simp [kf] at hv; rcases hv with rfl | rfl | rfl | rfl | rfl <;> rfl) l9 186 #[] swoP g 0 cap acc.toArray w eg (fun m os dk _ x y => rW x y _) hH ((Array.getElem?_eq_some_iff.1 hb).1) (by simpa using h12) oD
 change Calls Tryz.prog 185 _ _ _ at hcon
 rw [show acc.toArray.size = acc.length by simp] at hcon
 refine hcon.mono ?_
 rintro e w' ⟨rfl, d', n, os, p1, p2, rfl⟩
 have hd : d'.toList = L := lC hF hp (by simpa using p1) (by simpa using p2)
 have hd' : d' = L.toArray := by rw [← hd]
 subst hd'
 have hlen := hp.length_eq
 refine ⟨rfl, ?_, ?_⟩
 ·have q := qB id (n := n) (os := os) (ts := bP L) (N := L.length) (s := 5) (by rw [lq]) hbase hb (by omega) h2 h3
  rw [List.map_id, ← im] at q
  rw [hlen]
  exact q
 ·exact mh id _
end Go.Proofs.YtikbjljkakabdaaGreat
namespace Go.Proofs.YtikbjljkakabdaaGreat
open Go.RowKit
set_option linter.unusedVariables false
set_option maxRecDepth 100000
set_option maxHeartbeats 16000000
theorem sB {a b : PT} (h : pv a = pv b) : a = b := by
 obtain ⟨a0, a1, a2, a3, a4⟩ := a
 obtain ⟨b0, b1, b2, b3, b4⟩ := b
 simp [pv] at h
 obtain ⟨rfl, rfl, rfl, rfl, rfl⟩ := h
 rfl
theorem rg {F : Int → Option PT} {D : DataW Value} {x : Int} {c : PT} {y : DataW Value × List MemPlace} (hD : ∀ z, D.atKey (.int .i64 x) z = atP (F x) z) (hv : R0p (pv c) = some y) (hat : ∀ zd, D.atKey (.int .i64 x) zd = y.1) : F x = some c := by
 obtain ⟨d, ps⟩ := y
 have e := (iI hv).2
 cases hx : F x with
 | none =>
  have q := (hD (.lit (.int .i64 0))).symm.trans (hat (.lit (.int .i64 0)))
  rw [hx] at q
  simp only [atP] at q
  rw [← e] at q
  cases q
 | some p =>
  have q := (hD (.lit (.int .i64 0))).symm.trans (hat (.lit (.int .i64 0)))
  rw [hx] at q
  simp only [atP] at q
  rw [← e] at q
  simp only [DataW.held.injEq] at q
  rw [sB q]
theorem invKp : ∀ key kl, keyOf Tryz.prog 3 key = some kl → ∃ x, key = Value.int .i64 x := fun key kl hk => by
 obtain ⟨x, rfl, _⟩ := Maps.keyOf_int_inv Tryz.underlying3 hk
 exact ⟨x, rfl⟩
def pvU (c : Unit → PT) : Value := pv (c ())
theorem invVp : ∀ v y, R0p v = some y → ∃ c, v = pvU c := fun v y hv => by
 obtain ⟨y1, y2⟩ := y
 obtain ⟨c, hc⟩ := (iI hv).1
 exact ⟨fun _ => c, hc⟩
theorem sr (m : Nat) (h : m ≤ 64) (w : World) : (Instr.makeSlice 53 (.int .i64 0) (.int .i64 (m : Int))).run Tryz.prog w = .ok (.slice (some ⟨w.heap.size, 0, none⟩) 0 m) (w.alloc (bI m)) := by
 obtain ⟨i, hi, hz⟩ := Option.map_eq_some_iff.1 kL
 simp only [Prod.mk.injEq] at hz
 obtain ⟨h1, h2, h3⟩ := hz
 have hr := run_make (P := Tryz.prog) w 53 154 i _ Tryz.underlying53 hi h1 .i64 .i64 0 m (by omega) (by omega) (by rw [h3]; omega) (by omega)
 simp only [Int.toNat_natCast, h2] at hr
 exact hr
theorem rj (m : Nat) (h : m ≤ 64) (w : World) : (w.alloc (bI m)).ownsRow w.heap.size 154 5 (.slice (some ⟨w.heap.size, 0, none⟩) 0 m) ([] : List PT).length (bP []) := World.ownsRow_made w _ m (Nat.le_refl _) (by unfold maxLen; omega) (size_madeCells _ _)
theorem rh {w : World} {base s n : Nat} {T : TypeId} {v : Value} {xs : List Value} (h : w.ownsRow base T s v n xs) (hn : 0 < n) : v ≠ .slice none 0 0 := fun e => by
 rcases h.2 with ⟨_, h0⟩ | ⟨g, cap, cur, he, _⟩
 ·omega
 ·rw [he] at e; simp at e
theorem bp {w : World} {base base' s n : Nat} {T : TypeId} {v : Value} {xs : List Value} (h : w.ownsRow base' T s v n xs) (hb : base ≤ base') : w.ownsRow base T s v n xs := by
 refine ⟨h.1, ?_⟩
 rcases h.2 with q | ⟨g, cap, cur, h1, h2, h3⟩
 ·exact .inl q
 ·exact .inr ⟨g, cap, cur, h1, Nat.le_trans hb h2, h3⟩
theorem jf {o : Option Nat} {r : Nat} (h : ∀ g, o = some g → g ≠ r) : o = none ∨ o ≠ some r := by
 cases o with
 | none => exact .inl rfl
 | some g => exact .inr (fun e => h g rfl (Option.some.inj e))
theorem qk (b n : Nat) (F : Int → Option PT) (L : List PT) (w : World) (MP : bq w b n F) (hF : FLP F L) (h9 : L.length ≤ 9) :
 Calls Tryz.prog 151 #[.map (some b)] w fun e w' => ∃ v, e = .returned v ∧ w'.ownsRow w.heap.size 154 5 v L.length (bP L) ∧ Below w.heap.size w w' := by
 have hlen := MP.len hF
 have hmk := sr L.length (by omega) w
 have O0 := rj L.length (by omega) w
 have B0 := Below.nw w (bI L.length)
 obtain ⟨D, hown, hD, hsz⟩ := (MP.below B0).sized hF
 have hbl : b < w.heap.size := MP.lt
 have HF : Hid (FLP F L) := hF
 have HD : Hid (∀ x, (∀ z, D.atKey (.int .i64 x) z = atP (F x) z) ∧ Maps.has D (.int .i64 x) = (F x).isSome) := hD
 clear MP hF hD
 go_enter Tryz.func151, Tryz.ntmps151
 go_upto_region 2 with fail
 clear hmk hlen
 have hs1 : (w.alloc (bI L.length)).heap.size = w.heap.size + 1 := by simp
 generalize w.alloc (bI L.length) = w1 at *
 go_wp2_with (first
  | (at_range; refine wpList_range_own _ rfl _ 210 rfl 3 154 kT Tryz.underlying210 _ b n D rfl hown ?_; intro w0 hrg0 hg0 hs0))
 go_frame
 have B1 := B0.trans ((io hg0 (Nat.le_refl _) (by simp)).mono B0.size)
 have O1 := World.ownsRow.kept O0 hg0 (.inr (by simp [Value.ownBlock]))
 have hrs : w.heap.size < w1.heap.size := by omega
 clear hown hg0 hs0 O0 B0 hs1
 generalize w1.heap.size = r at *
 go_loopw [3] (fun v wr => ∃ (left : Lit → Bool) (cnt : Nat) (acc : List PT), wr.ranges Tryz.prog 3 R0p b r n D left cnt ∧ Met F left acc ∧ acc.length + cnt ≤ L.length ∧ wr.ownsRow w.heap.size 154 5 v acc.length (bP acc) ∧ v ≠ .slice none 0 0 ∧ (∀ g, v.ownBlock = some g → g ≠ r) ∧ Below w.heap.size w wr)
  (fun _ wr => wr.rangeLeft b r)
 case atStart =>
  refine ⟨_, _, [], hrg0, ⟨List.nodup_nil, fun q => ⟨fun h => by simp at h, fun ⟨h1, h2⟩ => ?_⟩⟩, by simp [hsz], O1, by simp, fun g hg => by simp [Value.ownBlock] at hg; omega, B1⟩
  rw [(HD.out q.1).2, h1] at h2
  cases h2
 case round =>
  obtain ⟨left, cnt, acc, hrg, hM, hc, OW, hnn, hne, hB⟩ := hrel
  have HM : Hid (Met F left acc) := hM
  clear hM
  have hBs := hB.size
  go_wp2_with (first
   | (at_next; (refine wpList_next_ranges _ rfl _ rfl 3 kT R0p (Value.int .i64) pvU invKp invVp b r n _ _ _ rfl hrg ?_ ?_)))
  ·intro _ hl0
   have hp : acc.Perm L := HM.out.perm HF.out hl0
   have CP : Hid _ := fun g cap w' h => pe HF.out hp w.heap.size g cap w' h (by omega)
   rcases OW.2 with ⟨he, _⟩ | ⟨g, cap, cur, rfl, hbase, _⟩
   ·exact absurd he hnn
   clear hnn hne hrg
   go_wp2_with fail
   refine (CP.out g cap _ OW).mono ?_
   rintro e w9 ⟨rfl, O9, hg9⟩
   have B9 := hB.trans ((But.ofGrownK hg9).below hbase hBs)
   clear CP hg9
   go_wp2_with fail
   go_ret
   exact ⟨_, rfl, O9, B9⟩
  ·intro x cf kl yd yp w2 cnt1 hkey hlk hv hat hrg1 hlt hg1 hs1 hen
   simp only [pvU] at hv hen ⊢
   generalize cf () = c at *
   obtain ⟨x', ex, rfl, _⟩ := Maps.keyOf_int_inv Tryz.underlying3 hkey
   obtain rfl : x = x' := by simpa using ex
   have hFx : F x = some c := rg (HD.out x).1 hv hat
   have hx1 : c.1 = x := ((HF.out.2 x c).1 hFx).2
   have HM1 : Hid (Met F (fun z => left z && !z.sameKey (.int .i64 x)) (acc ++ [c])) := by
    subst hx1
    exact HM.out.step hFx hlk
   have HLE : Hid (wr.rangeLeft b r = cnt) := hrg.left_eq
   obtain ⟨y0, y1, y2, y3, y4⟩ := c
   have O2 := World.ownsRow.kept OW hg1 (jf hne)
   have B2 := hB.trans (io hg1 hBs (fun q hq e => by have := Option.some.inj e; omega))
   clear hkey hlk hv hat hg1 hs1 OW hB hrg HM hFx hx1
   simp only [pv] at hen ⊢
   have A1 := Below.nw w2 (.cells #[.int .i64 y0, .int .i64 y1, .int .i64 y2, .int .i64 y3, .bool y4] 154)
   have KB := Bx5.new w2 (.int .i64 y0) (.int .i64 y1) (.int .i64 y2) (.int .i64 y3) (.bool y4) 154
   have hr3 := hrg1.alloc (.cells #[.int .i64 y0, .int .i64 y1, .int .i64 y2, .int .i64 y3, .bool y4] 154)
   replace O2 := aG O2 A1
   replace B2 := B2.trans (A1.mono B2.size)
   clear hrg1
   go_upto_region 5 with fail
   clear hen A1
   generalize hbk : w2.heap.size = bk at *
   generalize w2.alloc (.cells #[.int .i64 y0, .int .i64 y1, .int .i64 y2, .int .i64 y3, .bool y4] 154) = w3 at *
   have k9 : _ ∧ _ := KB
   have hBs2 := B2.size
   have hlr := hr3.lt
   go_wp2_with (at_builtin; refine jW rfl _ _ rfl w.heap.size acc _ rfl O2 rfl (by omega) (by omega) ?_; intro v' w9 O9 hg9 hn9)
   have HO9 : Hid (w9.ownsRow w.heap.size 154 5 v' (acc ++ [(y0, y1, y2, y3, y4)]).length (bP (acc ++ [(y0, y1, y2, y3, y4)]))) := O9
   have B9 := B2.trans (aJ O2 hg9 hBs2)
   have hr9 := hr3.kept hg9 (fun e => by have := (World.ownsRow.lt O2 b e.symm).1; omega) (fun e => hne _ e.symm rfl)
   have HN9 : Hid (∀ g, v'.ownBlock = some g → g ≠ r) := fun g hg => by
    rcases hn9 g hg with q | q
    ·exact hne g q
    ·omega
   have HV : Hid (v' ≠ .slice none 0 0) := rh HO9.out (by simp)
   clear O9 hg9 hn9 O2 B2 hr3 k9 KB
   go_wp2_with fail
   go_roundw
   case rel => exact ⟨_, cnt1, acc ++ [(y0, y1, y2, y3, y4)], hr9, HM1.out, by simp; omega, HO9.out, HV.out, HN9.out, B9⟩
   case measure => rw [hr9.left_eq, HLE.out]; exact hlt
theorem Bx5.kept {w w' : World} {q : Option Nat} {k : Nat} {u0 u1 u2 u3 u4 : Value} (h : Bx5 w k u0 u1 u2 u3 u4) (hg : w.grownBy w' q) (hq : some k ≠ q) : Bx5 w' k u0 u1 u2 u3 u4 := by
 obtain ⟨h0, h1, h2, h3, h4, h5, f1, f2, f3, f4, f5⟩ := h
 have cc : ∀ i, w'.cell? ⟨k, i, none⟩ = w.cell? ⟨k, i, none⟩ := fun i => cB hg h0 hq
 have ff : ∀ i, w'.frozen? ⟨k, i, none⟩ = w.frozen? ⟨k, i, none⟩ := fun i => by have := hg.block k h0 hq; simp only [World.frozen?]; rw [this]
 exact ⟨Nat.lt_of_lt_of_le h0 hg.size, by rw [cc]; exact h1, by rw [cc]; exact h2, by rw [cc]; exact h3, by rw [cc]; exact h4, by rw [cc]; exact h5, by rw [ff]; exact f1, by rw [ff]; exact f2, by rw [ff]; exact f3, by rw [ff]; exact f4, by rw [ff]; exact f5⟩
abbrev CT : Type := Int × Int × Int
def cV (e : CT) : VT := (e.2.1, e.2.2)
def cI (e : CT) : Int := e.1
def crA (p : PT) (n d x : Int) : Int := crC true p.2.1 p.2.2.1 p.2.2.2.1 n d x
def crE (p : PT) (n d x : Int) : CT := (p.1, crL true p.2.1 p.2.2.1 p.2.2.2.1 n d x, crH true p.2.1 p.2.2.1 p.2.2.2.1 n d x)
def caK (M : Nat → PT) (n d x : Int) (Fr : List Int) : Nat → List CT
 | 0 => []
 | k + 1 => if crA (M (gI Fr k).toNat) n d x = 0 then caK M n d x Fr k ++ [crE (M (gI Fr k).toNat) n d x] else caK M n d x Fr k
theorem nI {M : Nat → PT} {n d x : Int} {Fr : List Int} {k : Nat} (h : crA (M (gI Fr k).toNat) n d x = 0) : caK M n d x Fr (k + 1) = caK M n d x Fr k ++ [crE (M (gI Fr k).toNat) n d x] := by simp [caK, h]
theorem pL {M : Nat → PT} {n d x : Int} {Fr : List Int} {k : Nat} (h : crA (M (gI Fr k).toNat) n d x ≠ 0) : caK M n d x Fr (k + 1) = caK M n d x Fr k := by simp [caK, h]
theorem fj (M : Nat → PT) (n d x : Int) (Fr : List Int) : ∀ k, (caK M n d x Fr k).length ≤ k
 | 0 => Nat.le_refl _
 | k + 1 => by have := fj M n d x Fr k; simp only [caK]; split <;> simp <;> omega
def caL (M : Nat → PT) (m : Nat) (n d x y : Int) : List CT := caK M n d x (frL M m x y) (frL M m x y).length
theorem fk (M : Nat → PT) (m : Nat) (n d x y : Int) : (caL M m n d x y).length ≤ 9 := by
 have h1 := cA M m x y
 have h2 := fj M n d x (frL M m x y) (frL M m x y).length
 unfold caL
 omega
theorem iZ {M : Nat → PT} {x y : Int} : ∀ {m : Nat} {z : Int}, z ∈ frs M x y m → ∃ P : Nat, z = (P : Int) ∧ P < m
 | 0, z, h => by simp [frs] at h
 | m + 1, z, h => by
  simp only [frs] at h
  split at h
  ·rw [List.mem_append] at h
   rcases h with h | h
   ·obtain ⟨P, h1, h2⟩ := iZ h
    exact ⟨P, h1, by omega⟩
   ·simp at h
    exact ⟨m, h, by omega⟩
  ·obtain ⟨P, h1, h2⟩ := iZ h
   exact ⟨P, h1, by omega⟩
theorem eo {M : Nat → PT} {m : Nat} {x y : Int} {k : Nat} (hk : k < (frL M m x y).length) : ∃ P : Nat, gI (frL M m x y) k = (P : Int) ∧ P < m := by
 have hm : gI (frL M m x y) k ∈ frL M m x y := by
  rw [gI, List.getD_eq_getElem?_getD, List.getElem?_eq_getElem hk]
  exact List.getElem_mem hk
 generalize gI (frL M m x y) k = z at *
 unfold frL at hm
 split at hm
 ·exact iZ hm
 ·simp at hm
def ApR (u v : Value) : Prop := ∀ g, u.ownBlock = some g → v.ownBlock ≠ some g
def b9 (w : World) (n d : Int) (vf : Value) (Fr : List Int) (KV : List VT) (KI : List Int) (vo vi : Value) (wr : World) : Prop :=
 Bx2 wr w.heap.size (.int .i64 n) (.int .i64 d) ∧ wr.ownsRow (w.heap.size + 1) 3 1 vf Fr.length (bx Fr) ∧ wr.ownsRow (w.heap.size + 1) 47 2 vo KV.length (cF KV) ∧ wr.ownsRow (w.heap.size + 1) 3 1 vi KI.length (bx KI) ∧ ApR vf vo ∧ ApR vf vi ∧ ApR vo vi ∧ Below w.heap.size w wr
theorem b9.below {w : World} {n d : Int} {vf : Value} {Fr : List Int} {KV : List VT} {KI : List Int} {vo vi : Value} {wr wr' : World} (h : b9 w n d vf Fr KV KI vo vi wr) (hb : Below wr.heap.size wr wr') : b9 w n d vf Fr KV KI vo vi wr' := by
 obtain ⟨h1, h2, h3, h4, h5, h6, h7, h8⟩ := h
 exact ⟨h1.below hb, aG h2 hb, aG h3 hb, aG h4 hb, h5, h6, h7, h8.trans (hb.mono h8.size)⟩
theorem b9.drew {w : World} {n d : Int} {vf : Value} {Fr : List Int} {KV : List VT} {KI : List Int} {vo vi : Value} {wr : World} (h : b9 w n d vf Fr KV KI vo vi wr) : b9 w n d vf Fr KV KI vo vi wr.drew := by
 obtain ⟨h1, h2, h3, h4, h5, h6, h7, h8⟩ := h
 exact ⟨h1, h2, h3, h4, h5, h6, h7, Below.drew h8⟩
theorem ft {w w' : World} {base s m j : Nat} {T : TypeId} {v : Value} {xs : List Value} (h : w.ownsRow base T s v m xs) (hb : But j w w') (hj : ∀ g, v.ownBlock = some g → g < j) : w'.ownsRow base T s v m xs :=
 World.ownsRow.kept h hb.grK (jf fun g hg e => by have := hj g hg; omega)
theorem b9.lts {w : World} {n d : Int} {vf : Value} {Fr : List Int} {KV : List VT} {KI : List Int} {vo vi : Value} {wr : World} (h : b9 w n d vf Fr KV KI vo vi wr) : w.heap.size < wr.heap.size ∧ (∀ g, vf.ownBlock = some g → g < wr.heap.size) ∧ (∀ g, vo.ownBlock = some g → g < wr.heap.size) ∧ (∀ g, vi.ownBlock = some g → g < wr.heap.size) :=
 ⟨h.1.1, fun g hg => (World.ownsRow.lt h.2.1 g hg).2, fun g hg => (World.ownsRow.lt h.2.2.1 g hg).2, fun g hg => (World.ownsRow.lt h.2.2.2.1 g hg).2⟩
theorem b9.but {w : World} {n d : Int} {vf : Value} {Fr : List Int} {KV : List VT} {KI : List Int} {vo vi : Value} {wr wr' : World} {j : Nat} (h : b9 w n d vf Fr KV KI vo vi wr) (hb : But j wr wr') (hj : w.heap.size < j ∧ (∀ g, vf.ownBlock = some g → g < j) ∧ (∀ g, vo.ownBlock = some g → g < j) ∧ (∀ g, vi.ownBlock = some g → g < j)) : b9 w n d vf Fr KV KI vo vi wr' := by
 obtain ⟨h1, h2, h3, h4, h5, h6, h7, h8⟩ := h
 exact ⟨h1.but hb (by omega), ft h2 hb hj.2.1, ft h3 hb hj.2.2.1, ft h4 hb hj.2.2.2, h5, h6, h7, h8.trans (hb.below (by omega) h8.size)⟩
theorem ApR.ne {u v : Value} (h : ApR u v) : v.ownBlock = none ∨ v.ownBlock ≠ u.ownBlock := qs h
theorem ApR.ne' {u v : Value} (h : ApR u v) : u.ownBlock = none ∨ u.ownBlock ≠ v.ownBlock := qs (fun g a b => h g b a)
theorem ApR.grow {u v v' : Value} {b : Nat} (h : ApR u v) (hn : ∀ g, v'.ownBlock = some g → v.ownBlock = some g ∨ b ≤ g) (hu : ∀ g, u.ownBlock = some g → g < b) : ApR u v' := fun g hg hg' => by
 rcases hn g hg' with q | q
 ·exact h g hg q
 ·have := hu g hg; omega
theorem ApR.grow' {u u' v : Value} {b : Nat} (h : ApR u v) (hn : ∀ g, u'.ownBlock = some g → u.ownBlock = some g ∨ b ≤ g) (hv : ∀ g, v.ownBlock = some g → g < b) : ApR u' v := fun g hg hg' => by
 rcases hn g hg with q | q
 ·exact h g q hg'
 ·have := hv g hg'; omega
theorem b9.addV {w : World} {n d : Int} {vf : Value} {Fr : List Int} {KV KV' : List VT} {KI : List Int} {vo vi v' : Value} {wr w9 : World} (h : b9 w n d vf Fr KV KI vo vi wr) (O9 : w9.ownsRow (w.heap.size + 1) 47 2 v' KV'.length (cF KV')) (hg : wr.grownBy w9 vo.ownBlock) (hn : ∀ g, v'.ownBlock = some g → vo.ownBlock = some g ∨ wr.heap.size ≤ g) : b9 w n d vf Fr KV' KI v' vi w9 := by
 have hl := h.lts
 obtain ⟨h1, h2, h3, h4, h5, h6, h7, h8⟩ := h
 have hb1 : some w.heap.size ≠ vo.ownBlock := fun e => by have := (World.ownsRow.lt h3 _ e.symm).1; omega
 exact ⟨h1.kept hg hb1, World.ownsRow.kept h2 hg h5.ne', O9, World.ownsRow.kept h4 hg h7.ne, h5.grow hn hl.2.1, h6, h7.grow' hn hl.2.2.2, h8.trans ((aJ h3 hg (by omega)).mono (by omega))⟩
theorem b9.addI {w : World} {n d : Int} {vf : Value} {Fr : List Int} {KV : List VT} {KI KI' : List Int} {vo vi v' : Value} {wr w9 : World} (h : b9 w n d vf Fr KV KI vo vi wr) (O9 : w9.ownsRow (w.heap.size + 1) 3 1 v' KI'.length (bx KI')) (hg : wr.grownBy w9 vi.ownBlock) (hn : ∀ g, v'.ownBlock = some g → vi.ownBlock = some g ∨ wr.heap.size ≤ g) : b9 w n d vf Fr KV KI' vo v' w9 := by
 have hl := h.lts
 obtain ⟨h1, h2, h3, h4, h5, h6, h7, h8⟩ := h
 have hb1 : some w.heap.size ≠ vi.ownBlock := fun e => by have := (World.ownsRow.lt h4 _ e.symm).1; omega
 exact ⟨h1.kept hg hb1, World.ownsRow.kept h2 hg h6.ne', World.ownsRow.kept h3 hg h7.ne', O9, h5, h6.grow hn hl.2.1, h7.grow hn hl.2.2.1, h8.trans ((aJ h4 hg (by omega)).mono (by omega))⟩
theorem b9.place {w : World} {n d : Int} {Fr : List Int} {KV : List VT} {KI : List Int} {vf vo vi : Value} {wr : World} (h : b9 w n d vf Fr KV KI vo vi wr) {k : Nat} (hk : k < Fr.length) : ∃ b c, vf = .slice (some ⟨b, 0, none⟩) Fr.length c ∧ b < wr.heap.size ∧ wr.cell? ⟨b, k, none⟩ = some (.int .i64 (gI Fr k)) := by
 rcases h.2.1.2 with ⟨_, h0⟩ | ⟨g, cap, cur, rfl, h1, h2, h3, h4, h5, h6⟩
 ·omega
 ·have hc := World.ownsRow.cellAt h.2.1 k (by omega)
  refine ⟨g, cap, rfl, (World.ownsRow.lt h.2.1 g rfl).2, ?_⟩
  rw [hc]
  simp [bx, nD, hk]
def zC : CT := (0, 0, 0)
def gC (C : List CT) (k : Nat) : CT := C.getD k zC
def iJ (c : CT) (lo hi : Int) : Bool := decide (0 < cX c.2.1 c.2.2 lo hi)
def stp (lo hi : Int) (p : PT) (c : CT) : PT := if c.1 = p.1 then (p.1, p.2.1, p.2.2.1, p.2.2.2.1, iJ c lo hi) else p
def bs (C : List CT) (lo hi : Int) (k : Nat) (p : PT) : PT := (C.take k).foldl (stp lo hi) p
def mkO (C : List CT) (lo hi : Int) (p : PT) : PT := bs C lo hi C.length p
theorem sI (lo hi : Int) (p : PT) (c : CT) : (stp lo hi p c).1 = p.1 := by unfold stp; split <;> rfl
theorem nR (lo hi : Int) : ∀ (C : List CT) (p : PT), (C.foldl (stp lo hi) p).1 = p.1
 | [], _ => rfl
 | c :: C, p => by rw [List.foldl_cons, nR lo hi C, sI]
theorem gm (C : List CT) (lo hi : Int) (k : Nat) (p : PT) : (bs C lo hi k p).1 = p.1 := nR lo hi _ p
theorem rv {C : List CT} {k : Nat} (hk : k < C.length) : C.take (k + 1) = C.take k ++ [gC C k] := by
 rw [List.take_add_one, gC, List.getD_eq_getElem?_getD, List.getElem?_eq_getElem hk]
 rfl
theorem k6 {C : List CT} {lo hi : Int} {k : Nat} (hk : k < C.length) (p : PT) : bs C lo hi (k + 1) p = stp lo hi (bs C lo hi k p) (gC C k) := by
 rw [bs, rv hk, List.foldl_append]
 rfl
theorem n8 {C : List CT} {lo hi : Int} {k : Nat} (hk : k < C.length) {p : PT} (h : (gC C k).1 = p.1) : bs C lo hi (k + 1) p = (p.1, (bs C lo hi k p).2.1, (bs C lo hi k p).2.2.1, (bs C lo hi k p).2.2.2.1, iJ (gC C k) lo hi) := by
 rw [k6 hk, stp, if_pos (by rw [gm]; exact h), gm]
theorem qq {C : List CT} {lo hi : Int} {k : Nat} (hk : k < C.length) {p : PT} (h : (gC C k).1 ≠ p.1) : bs C lo hi (k + 1) p = bs C lo hi k p := by
 rw [k6 hk, stp, if_neg (by rw [gm]; exact h)]
def mrP (M : Nat → PT) (m : Nat) (lo hi : Int) : Bool := oks M m && okI lo hi
def mrL (M : Nat → PT) (m : Nat) (n d x y lo hi : Int) : List PT := if mrP M m lo hi = true then (cP M m).map (mkO (caL M m n d x y) lo hi) else []
theorem rS {M : Nat → PT} {m : Nat} {n d x y lo hi : Int} (h1 : oks M m = true) (h2 : okI lo hi = true) : mrL M m n d x y lo hi = (cP M m).map (mkO (caL M m n d x y) lo hi) := if_pos (by rw [mrP, h1, h2]; rfl)
theorem rQ {M : Nat → PT} {m : Nat} {n d x y lo hi : Int} (h1 : oks M m = false) : mrL M m n d x y lo hi = [] := if_neg (by rw [mrP, h1]; simp)
theorem rR {M : Nat → PT} {m : Nat} {n d x y lo hi : Int} (h1 : okI lo hi = false) : mrL M m n d x y lo hi = [] := if_neg (by rw [mrP, h1]; simp)
theorem dK (M : Nat → PT) (m : Nat) (n d x y lo hi : Int) : (mrL M m n d x y lo hi).length ≤ 9 := by
 unfold mrL
 split
 ·next h =>
  unfold mrP at h
  simp only [Bool.and_eq_true] at h
  have := dh h.1
  rw [List.length_map, d6]
  omega
 ·simp
theorem iK {M : Nat → PT} {n d x : Int} {Fr : List Int} : ∀ {k : Nat} {c : CT}, c ∈ caK M n d x Fr k → ∃ j, j < k ∧ crA (M (gI Fr j).toNat) n d x = 0 ∧ c = crE (M (gI Fr j).toNat) n d x
 | 0, c, h => by simp [caK] at h
 | k + 1, c, h => by
  simp only [caK] at h
  split at h
  ·next hc =>
   rw [List.mem_append] at h
   rcases h with h | h
   ·obtain ⟨j, h1, h2⟩ := iK h
    exact ⟨j, by omega, h2⟩
   ·simp at h
    exact ⟨k, by omega, hc, h⟩
  ·obtain ⟨j, h1, h2⟩ := iK h
   exact ⟨j, by omega, h2⟩
theorem rV {M : Nat → PT} {m : Nat} {n d x y : Int} {k : Nat} (hk : k < (caL M m n d x y).length) : okI (gC (caL M m n d x y) k).2.1 (gC (caL M m n d x y) k).2.2 = true ∧ ∃ P, P < m ∧ (M P).1 = (gC (caL M m n d x y) k).1 := by
 have hm : gC (caL M m n d x y) k ∈ caL M m n d x y := by
  rw [gC, List.getD_eq_getElem?_getD, List.getElem?_eq_getElem hk]
  exact List.getElem_mem hk
 generalize gC (caL M m n d x y) k = c at *
 obtain ⟨j, hj, h0, rfl⟩ := iK hm
 obtain ⟨P, hP, hPm⟩ := eo hj
 rw [hP, Int.toNat_natCast] at h0 ⊢
 exact ⟨(cr_ok h0).2.2, P, hPm, rfl⟩
theorem qo {c : CT} {lo hi : Int} (h1 : okI c.2.1 c.2.2 = true) (h2 : okI lo hi = true) : (!(aZ c.2.1 c.2.2 lo hi)) = iJ c lo hi := by
 obtain ⟨c0, cl, ch⟩ := c
 have hb : aY cl ch lo hi = true := by simp [aY, h2]; exact h1
 have ⟨a1, a2, a3⟩ := bF (show okI cl ch = true from h1)
 have ⟨b1, b2, b3⟩ := bF h2
 show (!(aZ cl ch lo hi)) = decide (0 < cX cl ch lo hi)
 simp only [aZ, hb, Bool.true_and]
 rw [jZ hb]
 have q1 : -1000000000000 ≤ imx cl lo ∧ imn ch hi ≤ 1000000000000 := by unfold imx imn; split <;> split <;> omega
 unfold okI
 by_cases h : imx cl lo ≤ imn ch hi
 ·have e : ¬ 0 < imx 0 (imx cl lo - imn ch hi) := by
   generalize imx cl lo = u at *
   generalize imn ch hi = v at *
   unfold imx; split <;> omega
  simp [h, q1, e]
 ·have e : 0 < imx 0 (imx cl lo - imn ch hi) := by
   generalize imx cl lo = u at *
   generalize imn ch hi = v at *
   unfold imx; split <;> omega
  simp [h, e]
theorem FLP.map {F : Int → Option PT} {L : List PT} (h : FLP F L) (g : PT → PT) (hg : ∀ p, (g p).1 = p.1) : FLP (fun y => (F y).map g) (L.map g) := by
 refine ⟨?_, fun x q => ?_⟩
 ·rw [List.pairwise_map]
  exact List.Pairwise.imp (fun {a b} hab => by rw [hg, hg]; exact hab) h.1
 ·show (F x).map g = some q ↔ _
  rw [List.mem_map]
  constructor
  ·intro hx
   rw [Option.map_eq_some_iff] at hx
   obtain ⟨p, hp, rfl⟩ := hx
   have := (h.2 x p).1 hp
   exact ⟨⟨p, this.1, rfl⟩, by rw [hg]; exact this.2⟩
  ·rintro ⟨⟨p, hp, rfl⟩, he⟩
   rw [hg] at he
   rw [(h.2 x p).2 ⟨hp, he⟩]
   rfl
theorem qp {F : Int → Option PT} {L : List PT} (hF : FLP F L) {C : List CT} {lo hi : Int} {k : Nat} (hk : k < C.length) {p : PT} (hp : F (gC C k).1 = some p) (y : Int) :
 (F y).map (bs C lo hi (k + 1)) = if y = (gC C k).1 then some ((gC C k).1, (bs C lo hi k p).2.1, (bs C lo hi k p).2.2.1, (bs C lo hi k p).2.2.2.1, iJ (gC C k) lo hi) else (F y).map (bs C lo hi k) := by
 have hp1 : p.1 = (gC C k).1 := ((hF.2 _ p).1 hp).2
 by_cases e : y = (gC C k).1
 ·rw [if_pos e, e, hp]
  show some (bs C lo hi (k + 1) p) = _
  rw [n8 hk hp1.symm, hp1]
 ·rw [if_neg e]
  cases hy : F y with
  | none => rfl
  | some q =>
   show some (bs C lo hi (k + 1) q) = some (bs C lo hi k q)
   rw [qq hk]
   intro e2
   have := ((hF.2 y q).1 hy).2
   exact e (this.symm.trans e2.symm)
theorem pU (C : List CT) (k : Nat) : gV (C.map cV) k = cV (gC C k) := by
 rw [gV, gC, List.getD_eq_getElem?_getD, List.getD_eq_getElem?_getD, List.getElem?_map]
 cases C[k]? <;> rfl
theorem sa (C : List CT) (k : Nat) : gI (C.map cI) k = cI (gC C k) := by
 rw [gI, gC, List.getD_eq_getElem?_getD, List.getD_eq_getElem?_getD, List.getElem?_map]
 cases C[k]? <;> rfl
def Two (w : World) (base : Nat) (C : List CT) (v0 v1 : Value) : Prop := w.ownsRow base 47 2 v0 (C.map cV).length (cF (C.map cV)) ∧ w.ownsRow base 3 1 v1 (C.map cI).length (bx (C.map cI))
theorem Two.below {w w' : World} {base : Nat} {C : List CT} {v0 v1 : Value} (h : Two w base C v0 v1) (hb : Below w.heap.size w w') : Two w' base C v0 v1 := ⟨aG h.1 hb, aG h.2 hb⟩
theorem Two.drew {w : World} {base : Nat} {C : List CT} {v0 v1 : Value} (h : Two w base C v0 v1) : Two w.drew base C v0 v1 := h
theorem Two.lts {w : World} {base : Nat} {C : List CT} {v0 v1 : Value} (h : Two w base C v0 v1) : (∀ g, v0.ownBlock = some g → base ≤ g ∧ g < w.heap.size) ∧ (∀ g, v1.ownBlock = some g → base ≤ g ∧ g < w.heap.size) := ⟨fun g hg => World.ownsRow.lt h.1 g hg, fun g hg => World.ownsRow.lt h.2 g hg⟩
theorem Two.kept {w w' : World} {base : Nat} {o : Option Nat} {C : List CT} {v0 v1 : Value} (h : Two w base C v0 v1) (hg : w.grownBy w' o) (h0 : v0.ownBlock = none ∨ v0.ownBlock ≠ o) (h1 : v1.ownBlock = none ∨ v1.ownBlock ≠ o) : Two w' base C v0 v1 := ⟨World.ownsRow.kept h.1 hg h0, World.ownsRow.kept h.2 hg h1⟩
theorem Two.but {w w' : World} {base j : Nat} {C : List CT} {v0 v1 : Value} (h : Two w base C v0 v1) (hb : But j w w') (h0 : ∀ g, v0.ownBlock = some g → g ≠ j) (h1 : ∀ g, v1.ownBlock = some g → g ≠ j) : Two w' base C v0 v1 := h.kept hb.grK (jf h0) (jf h1)
theorem Two.at {w : World} {base : Nat} {C : List CT} {v0 v1 : Value} (h : Two w base C v0 v1) {k : Nat} (hk : k < C.length) : ∃ a c a' c', v0 = .slice (some ⟨a, 0, none⟩) C.length c ∧ v1 = .slice (some ⟨a', 0, none⟩) C.length c' ∧ a < w.heap.size ∧ a' < w.heap.size ∧ w.cell? ⟨a, k * 2, none⟩ = some (.int .i64 (gC C k).2.1) ∧ w.cell? ⟨a, k * 2 + 1, none⟩ = some (.int .i64 (gC C k).2.2) ∧ w.cell? ⟨a', k, none⟩ = some (.int .i64 (gC C k).1) := by
 obtain ⟨h1, h2⟩ := h
 rcases h1.2 with ⟨_, h0⟩ | ⟨g, cap, cur, rfl, _⟩
 ·rw [List.length_map] at h0; omega
 rcases h2.2 with ⟨_, h0⟩ | ⟨g', cap', cur', rfl, _⟩
 ·rw [List.length_map] at h0; omega
 have e1 := World.ownsRow.cellAt h1 (k * 2) (by rw [List.length_map]; omega)
 have e2 := World.ownsRow.cellAt h1 (k * 2 + 1) (by rw [List.length_map]; omega)
 have e3 := World.ownsRow.cellAt h2 k (by rw [List.length_map]; omega)
 refine ⟨g, cap, g', cap', by rw [List.length_map], by rw [List.length_map], (World.ownsRow.lt h1 g rfl).2, (World.ownsRow.lt h2 g' rfl).2, ?_, ?_, ?_⟩
 ·rw [e1]
  have : (cF (C.map cV))[k * 2]? = some (au (gV (C.map cV)) (k * 2 + 0)) := by rw [cF, List.getElem?_map, List.getElem?_range (by rw [List.length_map]; omega)]; rfl
  rw [this, cy _ _ 0 (by decide), pU]
  rfl
 ·rw [e2]
  have : (cF (C.map cV))[k * 2 + 1]? = some (au (gV (C.map cV)) (k * 2 + 1)) := by rw [cF, List.getElem?_map, List.getElem?_range (by rw [List.length_map]; omega)]; rfl
  rw [this, cy _ _ 1 (by decide), pU]
  rfl
 ·rw [e3]
  have : (bx (C.map cI))[k]? = some (nD (gI (C.map cI)) k) := by rw [bx, List.getElem?_map, List.getElem?_range (by rw [List.length_map]; omega)]; rfl
  rw [this, nD, sa]
  rfl
end Go.Proofs.YtikbjljkakabdaaGreat
