/- Contracts of spec.l7Copy and spec.l7Put, also of a list that is nil. Contracts of the book its take and of impl.Use. Lists of asks; the contract of a book its takeLate. The contract of impl.ExpireAsks. -/
import Derived.Test.YtgfhcilhibbooaaMu2
import Derived.Laws.OwnMore
import Derived.Deep.RegionHeld3
import Derived.Deep.DeepCutAuto
import Derived.WalkKit
import Derived.WalkSpells
import Derived.WalkLawsBesides
import Derived.Deep.RegionHeld
namespace Go.Proofs.Ytgfhcilhibbooaa
open Go.RowKit
set_option linter.unusedVariables false
theorem wp_append_opt {P : Program} {w : World} {o : Oper} {a : Act} {K : Act → World → Prop} {Q : Exit → Act → World → Prop} (s x : Operand) (t : TypeId)
    (ho : o.op = .call { callee := .builtin .append, args := #[s, x], argTypes := #[t, t] })
    (base : Nat) (e : TypeId) (i : TypeInfo) (z : Value) (size bytes : Nat) (ht : P.underlying t = some (.slice e)) (hi : P.info? e = some i) (hz : i.zero = some z)
    (hsize : i.size = size) (hby : i.bytes = bytes) (hzs : z.cells.size = size) (hsz : 0 < size)
    (v : Value) (n : Nat) (xs : List Value) (hs : a.eval s = v) (hown : w.ownsRow base e size v n xs)
    (A : Option Addr) (m c : Nat) (news : List Value) (hx : a.eval x = .slice A m c) (hsrc : (A = none ∧ m = 0 ∧ c = 0) ∨ ∃ ad, A = some ad ∧ ∀ j u, news[j]? = some u → w.cell? (ad.add j) = some u) (hl : news.length = m * size) (h1 : ∀ u ∈ news, u.oneCell' = true)
    (h63 : n + m ≤ maxLen) (hbytes : (n + m) * bytes ≤ 140737488355328) (hbase : base ≤ w.heap.size)
    (h : ∀ v' w', w'.ownsRow base e size v' (n + m) (xs ++ news) → w.grownBy w' v.ownBlock → K (a.put o.dst v') w') : o.wp P a w K Q := by
  rcases hsrc with ⟨rfl, rfl, rfl⟩ | ⟨ad, rfl, hnews⟩
  · have hr := run_append_owned_none (P := P) (w := w) base t o.type e i size ht hi v n xs hown
    have hn0 : news = [] := List.eq_nil_of_length_eq_zero (by rw [hl]; simp)
    subst hn0
    unfold Oper.wp execOp
    simp only [ho, resolve, invoke, builtin, Sem.run_bind, Sem.run_pure, Result.andThen_ok, List.map_toArray, List.map_cons, List.map_nil, hs, hx, hr]
    exact h v w (by rw [List.append_nil]; exact hown) ⟨rfl, rfl, rfl, Nat.le_refl _, fun _ _ _ => rfl⟩
  · exact wp_append_own w s x t ho base e i z size bytes ht hi hz hsize hby hzs hsz v n xs hs hown ad m c news hx hl hnews h1 h63 hbytes hbase (fun v' w' p1 p2 _ => h v' w' p1 p2)
/- A table's list, nil or not. -/
def FromsO (w : World) (A : Option Addr) (M : Nat → KT) (n c : Nat) : Prop := (A = none ∧ n = 0 ∧ c = 0) ∨ ∃ ad, A = some ad ∧ Froms w ad M n
theorem FromsO.below {w w' : World} {A : Option Addr} {M : Nat → KT} {n c : Nat} (h : FromsO w A M n c) (hb : Below w.heap.size w w') : FromsO w' A M n c := by
  rcases h with h | ⟨ad, e, h⟩
  · exact .inl h
  · exact .inr ⟨ad, e, h.below hb⟩
theorem FromsO.at {w : World} {A : Option Addr} {M : Nat → KT} {n c : Nat} (h : FromsO w A M n c) : (A = none ∧ n = 0 ∧ c = 0) ∨ ∃ ad, A = some ad ∧ FromAd w ad M n := by
  rcases h with h | ⟨ad, e, h⟩
  · exact .inl h
  · exact .inr ⟨ad, e, h.at⟩
theorem FromsO.src {w : World} {A : Option Addr} {M : Nat → KT} {n c : Nat} (h : FromsO w A M n c) : SrcC w A (n * 4) (MFAsk M) := by
  rcases h with ⟨_, h, _⟩ | ⟨ad, rfl, h⟩
  · exact .inl (by omega)
  · exact h.src
theorem FromsO.own {w : World} {base n c : Nat} {A : Option Addr} {M : Nat → KT} (h : w.ownsRow base 43 4 (.slice A n c) n (krow M n)) : FromsO w A M n c := by
  rcases h.2 with ⟨he, h0⟩ | ⟨g, cap, cur, he, _⟩
  · simp at he; exact .inl he
  · simp at he
    rcases own_srcK h with h0 | ⟨b, off, ha, hc⟩
    · exact .inr ⟨⟨g, 0, none⟩, he.1, .inl (by omega)⟩
    · exact .inr ⟨⟨b, off, none⟩, ha, .inr ⟨rfl, hc⟩⟩
set_option maxRecDepth 100000 in
set_option maxHeartbeats 4000000 in
theorem l7Copy_opt (ep us : Int) (A : Option Addr) (n c : Nat) (M : Nat → KT) (w : World) (hn : n ≤ 1000) (hf : FromsO w A M n c) :
    Calls Try.prog 37 #[.agg #[.int .i64 ep, .int .i64 us, .slice A n c]] w fun e w' => ∃ a' c', e = .returned (.agg #[.int .i64 ep, .int .i64 us, .slice a' n c']) ∧ w'.ownsRow w.heap.size 43 4 (.slice a' n c') n (krow M n) ∧ Below w.heap.size w w' := by
  obtain ⟨i0, hi, hz0, hz1, hz2⟩ := infoK_parts
  have N := (IB3.new w ep us A n c 39).below (Below.nw _ (.cells #[.int .i64 0, .int .i64 0, .slice none 0 0] 39))
  have R := Bx3.new (w.alloc (.cells #[.int .i64 ep, .int .i64 us, .slice A n c] 39)) (.int .i64 0) (.int .i64 0) (.slice none 0 0) 39
  have A1 := Below.nw w (.cells #[.int .i64 ep, .int .i64 us, .slice A n c] 39)
  have B := A1.alloc A1.size (.cells #[.int .i64 0, .int .i64 0, .slice none 0 0] 39)
  have CS := (hf.below A1).below (Below.nw _ (.cells #[.int .i64 0, .int .i64 0, .slice none 0 0] 39))
  simp only [World.size_alloc] at R
  clear hf A1
  go_enter Try.func37, Try.ntmps37
  go_wp2_with fail
  generalize (w.alloc (.cells #[.int .i64 ep, .int .i64 us, .slice A n c] 39)).alloc (.cells #[.int .i64 0, .int .i64 0, .slice none 0 0] 39) = v at *
  obtain ⟨n0, n1, n2, n3⟩ := id N
  obtain ⟨r0, r1, r2, r3, r4, r5, r6⟩ := id R
  refine wp_region_held_drew (S := (fun w' => w'.cell? ⟨w.heap.size, 0, none⟩ = some (.int .i64 ep) ∧ w'.cell? ⟨w.heap.size, 1, none⟩ = some (.int .i64 us) ∧ w'.cell? ⟨w.heap.size, 2, none⟩ = some (.slice A n c))) (by kernel_rfl) ?_ (fun hHeld => ?_)
  · first | exact ⟨n1, n2, n3⟩ | (simp (maxDischargeDepth := 6) [go_sem, *]; done)
  clear n0 n1 n2 n3 r0 r1 r2 r3 r4 r5 r6
  replace N := N.drew
  replace R := R.drew
  replace B := Below.drew B
  replace CS : FromsO v.drew A M n c := CS
  generalize v.drew = v at *
  (obtain ⟨n0, n1, n2, n3⟩ := id N); (obtain ⟨r0, r1, r2, r3, r4, r5, r6⟩ := id R)
  refine wpAnyH_take (i := 0) (v := ?_) (by rw [List.getElem?_toArray]; rfl) (by kernel_rfl) (by kernel_rfl) (by kernel_rfl) (by intro _ _ _ h; exact h) (Or.inl ⟨by rfl, ?_⟩) (by assumption) ?_
  rotate_left
  · (intro w hSw; (try dsimp only at hSw); go_simp; all_goals with_reducible rfl)
  (try simp only [Act.put, List.setIfInBounds_toArray, List.set_cons_zero, List.set_cons_succ])
  refine wpAnyH_take (i := 1) (v := ?_) (by rw [List.getElem?_toArray]; rfl) (by kernel_rfl) (by kernel_rfl) (by kernel_rfl) (by intro _ _ _ h; exact h) (Or.inl ⟨by rfl, ?_⟩) (by assumption) ?_
  rotate_left
  · (intro w hSw; (try dsimp only at hSw); go_simp; all_goals with_reducible rfl)
  (try simp only [Act.put, List.setIfInBounds_toArray, List.set_cons_zero, List.set_cons_succ])
  refine wpAnyH_take (i := 2) (v := ?_) (by rw [List.getElem?_toArray]; rfl) (by kernel_rfl) (by kernel_rfl) (by kernel_rfl) (by intro _ _ _ h; exact h) (Or.inl ⟨by rfl, ?_⟩) (by assumption) ?_
  rotate_left
  · (intro w hSw; (try dsimp only at hSw); go_simp; all_goals with_reducible rfl)
  (try simp only [Act.put, List.setIfInBounds_toArray, List.set_cons_zero, List.set_cons_succ])
  refine wpAnyH_take (i := 3) (v := ?_) (by rw [List.getElem?_toArray]; rfl) (by kernel_rfl) (by kernel_rfl) (by kernel_rfl) (by intro _ _ _ h; exact h) (Or.inl ⟨by rfl, ?_⟩) (by assumption) ?_
  rotate_left
  · (intro w hSw; (try dsimp only at hSw); go_simp; all_goals with_reducible rfl)
  (try simp only [Act.put, List.setIfInBounds_toArray, List.set_cons_zero, List.set_cons_succ])
  refine wpAnyH_take (i := 5) (v := ?_) (by rw [List.getElem?_toArray]; rfl) (by kernel_rfl) (by kernel_rfl) (by kernel_rfl) (by intro _ _ _ h; exact h) (Or.inl ⟨by rfl, ?_⟩) (by assumption) ?_
  rotate_left
  · (intro w hSw; (try dsimp only at hSw); go_simp; all_goals with_reducible rfl)
  (try simp only [Act.put, List.setIfInBounds_toArray, List.set_cons_zero, List.set_cons_succ])
  refine wpAnyH_take (i := 6) (v := ?_) (by rw [List.getElem?_toArray]; rfl) (by kernel_rfl) (by kernel_rfl) (by kernel_rfl) (by intro _ _ _ h; exact h) (Or.inl ⟨by rfl, ?_⟩) (by assumption) ?_
  rotate_left
  · (intro w hSw; (try dsimp only at hSw); go_simp; all_goals with_reducible rfl)
  (try simp only [Act.put, List.setIfInBounds_toArray, List.set_cons_zero, List.set_cons_succ])
  refine wpAnyH_ready (rs := [4]) (by kernel_rfl) (by simp) ?_
  refine (AllReadyH.cons (by rw [List.getElem?_toArray]; rfl) (fun K hK => ?_) AllReadyH.nil)
  go_simp
  (have hvz : w.heap.size + 2 ≤ v.heap.size := r0); (have O := World.ownsRow_made (base := w.heap.size + 2) (size := 4) (e := 43) v #[] 0 hvz (by simp [maxLen]) (by simp)); (have A := Below.nw v (.cells #[] 43)); clear n0 n1 n2 n3 r0 r1 r2 r3 r4 r5 r6; (replace N := N.below A); (replace R := R.below A); (replace CS := CS.below A); (replace B := B.trans (A.mono B.size)); (have hsz : w.heap.size + 2 ≤ (v.alloc (.cells #[] 43)).heap.size := Nat.le_trans hvz A.size); clear A; (generalize v.alloc (.cells #[] 43) = v2 at *); (obtain ⟨n0, n1, n2, n3⟩ := id N); (obtain ⟨r0, r1, r2, r3, r4, r5, r6⟩ := id R)
  refine hK.out _ _ ?_ (fun hHeld => ?_)
  · first | exact ⟨n1, n2, n3⟩ | (simp (maxDischargeDepth := 6) [go_sem, *]; done)
  clear hK K
  (try simp only [Act.put, List.setIfInBounds_toArray, List.set_cons_zero, List.set_cons_succ])
  refine wpAnyH_ready (rs := [7]) (by kernel_rfl) (by simp) ?_
  refine (AllReadyH.cons (by rw [List.getElem?_toArray]; rfl) (fun K hK => ?_) AllReadyH.nil)
  rw [if_pos (by rfl)]; (have HN : Hid ((A = none ∧ n = 0 ∧ c = 0) ∨ ∃ ad, A = some ad ∧ FromAd v2 ad M n) := CS.at); refine wp_append_opt _ _ 37 rfl (w.heap.size + 2) 43 i0 (.agg #[.int .i64 0, .int .i64 0, .int .i64 0, .int .i64 0]) 4 32 Try.underlying37 hi hz0 hz1 hz2 rfl (by decide) _ _ _ rfl O A n c (krow M n) rfl HN.out (krow_len M n) (krow_one M n) (by unfold maxLen; omega) (by omega) hsz ?_; intro v' wn hown' hgrow; (have Bg := But.ofGrownK hgrow); clear n0 n1 n2 n3 r0 r1 r2 r3 r4 r5 r6; (replace N := N.but Bg (Nat.ne_of_lt (Nat.lt_of_lt_of_le (by omega) hvz))); (replace R := R.but Bg (Nat.ne_of_lt (Nat.lt_of_lt_of_le (by omega) hvz))); (replace B := B.trans (Bg.below (Nat.le_trans (by omega) hvz) B.size)); rw [Nat.zero_add, List.nil_append] at hown'; (obtain ⟨a', c', rfl, _, _, _⟩ := ownF_src hown'); clear hgrow HN Bg; (obtain ⟨n0, n1, n2, n3⟩ := id N); (obtain ⟨r0, r1, r2, r3, r4, r5, r6⟩ := id R)
  refine hK.out _ _ ?_ (fun hHeld => ?_)
  · first | exact ⟨n1, n2, n3⟩ | (simp (maxDischargeDepth := 6) [go_sem, *]; done)
  clear hK K
  (try simp only [Act.put, List.setIfInBounds_toArray, List.set_cons_zero, List.set_cons_succ])
  refine wpAnyH_take (i := 8) (v := ?_) (by rw [List.getElem?_toArray]; rfl) (by kernel_rfl) (by kernel_rfl) (by kernel_rfl) (by intro _ _ _ h; exact h) (Or.inl ⟨by rfl, ?_⟩) (by assumption) ?_
  rotate_left
  · (intro w hSw; (try dsimp only at hSw); go_simp; all_goals with_reducible rfl)
  (try simp only [Act.put, List.setIfInBounds_toArray, List.set_cons_zero, List.set_cons_succ])
  refine wpAnyH_ready (rs := [9]) (by kernel_rfl) (by simp) ?_
  refine (AllReadyH.cons (by rw [List.getElem?_toArray]; rfl) (fun K hK => ?_) AllReadyH.nil)
  go_simp
  refine hK.out _ _ ?_ (fun hHeld => ?_)
  · first | exact ⟨n1, n2, n3⟩ | (simp (maxDischargeDepth := 6) [go_sem, *]; done)
  clear hK K
  (try simp only [Act.put, List.setIfInBounds_toArray, List.set_cons_zero, List.set_cons_succ])
  refine wpAnyH_done (by kernel_rfl) ?_ _
  go_wp2_with fail
  have PB := put3_butK wn (w.heap.size + 1) (.int .i64 ep) (.int .i64 us) (.slice a' n c')
  exact bodyPost_ret (v := .agg #[.int .i64 ep, .int .i64 us, .slice a' n c']) (by simp (maxDischargeDepth := 6) [results, Try.results37, go_sem, *]) rfl ⟨a', c', rfl, ownK_le (own_butK hown' PB (by omega)) (by omega), B.trans (PB.below (by omega) B.size)⟩
set_option maxRecDepth 100000 in
set_option maxHeartbeats 8000000 in
theorem l7Put_opt (ep us x y z nn : Int) (A : Option Addr) (n c : Nat) (M : Nat → KT) (w : World) (hn : n ≤ 900) (hf : FromsO w A M n c) (hep : 0 ≤ ep ∧ ep ≤ 100000) (hus : 0 ≤ us ∧ us ≤ 1000) (hnn : ep * 1000 + us = nn) :
    Calls Try.prog 60 #[.agg #[.int .i64 ep, .int .i64 us, .slice A n c], .int .i64 x, .int .i64 y, .int .i64 z] w fun e w' => ∃ a' c', e = .returned (.tuple #[.agg #[.int .i64 ep, .int .i64 (us + 1), .slice a' (n + 1) c'], .agg #[.int .i64 nn, .int .i64 x, .int .i64 y, .int .i64 z]]) ∧ w'.ownsRow w.heap.size 43 4 (.slice a' (n + 1) c') (n + 1) (krow (addG M n (kT nn x y z)) (n + 1)) ∧ Below w.heap.size w w' := by
  obtain ⟨i0, hi, hz0, hz1, hz2⟩ := infoK_parts
  have w1 : IntKind.i64.wrap (ep * 1000) = ep * 1000 := Go.IntWalk.i64_in _ ⟨by omega, by omega⟩
  have w2 : IntKind.i64.wrap (ep * 1000 + us) = nn := by rw [hnn]; exact Go.IntWalk.i64_in _ ⟨by omega, by omega⟩
  have w3 : IntKind.i64.wrap (us + 1) = us + 1 := Go.IntWalk.i64_in _ ⟨by omega, by omega⟩
  have HW : Hid (krow M n ++ [.int .i64 nn, .int .i64 x, .int .i64 y, .int .i64 z] = krow (addG M n (kT nn x y z)) (n + 1)) := by
    have e : krow M n = krow (addG M n (kT nn x y z)) n := krow_congr fun j hj => (if_neg (by omega)).symm
    rw [Hid, e]
    exact krow_add (if_pos rfl)
  have N := ((IB3.new w ep us A n c 39).below (Below.nw _ (.cells #[.int .i64 0, .int .i64 0, .slice none 0 0] 39))).below (Below.nw _ (.cells #[.int .i64 0, .int .i64 0, .int .i64 0, .int .i64 0] 43))
  have R := (Bx3.new (w.alloc (.cells #[.int .i64 ep, .int .i64 us, .slice A n c] 39)) (.int .i64 0) (.int .i64 0) (.slice none 0 0) 39).below (Below.nw _ (.cells #[.int .i64 0, .int .i64 0, .int .i64 0, .int .i64 0] 43))
  have R2 := Bf4.new ((w.alloc (.cells #[.int .i64 ep, .int .i64 us, .slice A n c] 39)).alloc (.cells #[.int .i64 0, .int .i64 0, .slice none 0 0] 39)) 0 0 0 0 43
  have A1 := Below.nw w (.cells #[.int .i64 ep, .int .i64 us, .slice A n c] 39)
  have A2 := A1.alloc A1.size (.cells #[.int .i64 0, .int .i64 0, .slice none 0 0] 39)
  have B := A2.alloc A2.size (.cells #[.int .i64 0, .int .i64 0, .int .i64 0, .int .i64 0] 43)
  have CS := ((hf.below A1).below (Below.nw _ (.cells #[.int .i64 0, .int .i64 0, .slice none 0 0] 39))).below (Below.nw _ (.cells #[.int .i64 0, .int .i64 0, .int .i64 0, .int .i64 0] 43))
  simp only [World.size_alloc] at R R2
  clear hf A1 A2 hep hus hnn
  go_enter Try.func60, Try.ntmps60
  go_upto_region 1 with fail
  generalize ((w.alloc (.cells #[.int .i64 ep, .int .i64 us, .slice A n c] 39)).alloc (.cells #[.int .i64 0, .int .i64 0, .slice none 0 0] 39)).alloc (.cells #[.int .i64 0, .int .i64 0, .int .i64 0, .int .i64 0] 43) = v at *
  have A3 := Below.nw v (.cells #[.int .i64 nn, .int .i64 x, .int .i64 y, .int .i64 z] 43)
  have Kx := Bf4.new v nn x y z 43
  have hJv : w.heap.size + 1 + 1 < v.heap.size := R2.1.1
  obtain ⟨n0, n1, n2, n3⟩ := id N
  go_upto_region 2 with fail
  clear n0 n1 n2 n3 w1 w2
  replace N := N.below A3
  replace R := R.below A3
  replace R2 := R2.below A3
  replace CS := CS.below A3
  replace B := B.trans (A3.mono B.size)
  clear A3
  generalize hbk : v.heap.size = bk at *
  generalize v.alloc (.cells #[.int .i64 nn, .int .i64 x, .int .i64 y, .int .i64 z] 43) = v1 at *
  obtain ⟨n0, n1, n2, n3⟩ := id N
  go_wp2_with fail
  have hkv : bk < v1.heap.size := Kx.1.1
  refine (l7Copy_opt ep us A n c M v1 (by omega) CS).mono ?_
  rintro e v2 ⟨a1, c1, rfl, O, hb⟩
  clear n0 n1 n2 n3 N CS
  replace R := R.below hb
  replace R2 := R2.below hb
  replace Kx := Kx.below hb
  replace B := B.trans (hb.mono B.size)
  have hv12 := hb.size
  clear hb
  have A4 := Below.nw v2 (.cells #[.int .i64 ep, .int .i64 us, .slice a1 n c1] 39)
  have Ox := Bx3.new v2 (.int .i64 ep) (.int .i64 us) (.slice a1 n c1) 39
  have OL : ∀ g, (Value.slice a1 n c1).ownBlock = some g → v1.heap.size ≤ g ∧ g < v2.heap.size := fun g hg => World.ownsRow.lt O g hg
  replace R := R.below A4
  replace R2 := R2.below A4
  replace Kx := Kx.below A4
  replace O := own_belK' O A4
  replace B := B.trans (A4.mono B.size)
  clear A4
  go_upto_region 3 with fail
  generalize hbo : v2.heap.size = bo at *
  generalize v2.alloc (.cells #[.int .i64 ep, .int .i64 us, .slice a1 n c1] 39) = v3 at *
  obtain ⟨o0, o1, o2, o3, o4, o5, o6⟩ := id Ox
  obtain ⟨⟨k0, k1, k2, k3, k4⟩, -, -, -, -⟩ := id Kx
  have O' := World.ownsRow.alloc O (.cells #[.int .i64 nn, .int .i64 x, .int .i64 y, .int .i64 z] 43)
  have HN : Hid (∀ j u, [Value.int .i64 nn, .int .i64 x, .int .i64 y, .int .i64 z][j]? = some u → (v3.alloc (.cells #[.int .i64 nn, .int .i64 x, .int .i64 y, .int .i64 z] 43)).cell? ((⟨v3.heap.size, 0, none⟩ : Addr).add j) = some u) := fun j u hu => four_at v3 nn x y z 43 j u hu
  go_wp2_with (at_builtin; refine wpList_append_own _ rfl _ _ 37 rfl v1.heap.size 43 i0 (.agg #[.int .i64 0, .int .i64 0, .int .i64 0, .int .i64 0]) 4 32 Try.underlying37 hi hz0 hz1 hz2 rfl (by decide) _ _ _ rfl O' ⟨v3.heap.size, 0, none⟩ 1 1 [.int .i64 nn, .int .i64 x, .int .i64 y, .int .i64 z] rfl rfl HN.out (four_one _ _ _ _) ?c3 ?c4 ?c5 ?_)
  case c3 => unfold maxLen; omega
  case c4 => omega
  case c5 => simp; omega
  intro v' wn hown' hgrow _
  rw [HW.out] at hown'
  clear k0 k1 k2 k3 k4 o0 o1 o2 o3 o4 o5 o6 HN HW
  have A5 := Below.nw v3 (.cells #[.int .i64 nn, .int .i64 x, .int .i64 y, .int .i64 z] 43)
  have hs5 := A5.size
  replace R := (R.below A5).kept3 hgrow (fun e => by have := OL _ e.symm; omega)
  replace R2 := (R2.below A5).kept hgrow (fun e => by have := OL _ e.symm; omega)
  replace Kx := (Kx.below A5).kept hgrow (fun e => by have := OL _ e.symm; omega)
  replace Ox := (Ox.below A5).kept3 hgrow (fun e => by have := OL _ e.symm; omega)
  replace B := (B.trans (A5.mono B.size)).trans (grown_bel hgrow (B.trans (A5.mono B.size)).size (fun b h e => by have := OL _ e.symm; omega))
  clear A5 O O' hgrow
  obtain ⟨a', c', rfl, _, _, _⟩ := ownF_src hown'
  -- the row lies apart from the box of the copy
  have PB := But.oneK wn bo 2 (.slice a' (n + 1) c')
  have hno : ∀ g, (Value.slice a' (n + 1) c').ownBlock = some g → g ≠ bo := own_cells3 hown' Ox (fun _ _ h => by cases h)
  replace hown' := own_neK hown' PB hno
  replace R := R.but PB (by omega)
  replace R2 := R2.but PB (by omega)
  replace Kx := Kx.but PB (by omega)
  replace B := B.trans (PB.below (B := w.heap.size) (by omega) B.size)
  have O2 := Ox.set2 (.slice a' (n + 1) c')
  obtain ⟨o0, o1, o2, o3, o4, o5, o6⟩ := Ox
  clear PB
  go_upto_region 4 with fail
  clear o0 o1 o2 o3 o4 o5 o6
  generalize wn.setCell ⟨bo, 2, none⟩ (.slice a' (n + 1) c') = v5 at *
  have PB := But.oneK v5 bo 1 (.int .i64 (us + 1))
  replace hown' := own_neK hown' PB hno
  replace R := R.but PB (by omega)
  replace R2 := R2.but PB (by omega)
  replace Kx := Kx.but PB (by omega)
  replace B := B.trans (PB.below (B := w.heap.size) (by omega) B.size)
  have O3 := O2.set1 (.int .i64 (us + 1))
  obtain ⟨o0, o1, o2, o3, o4, o5, o6⟩ := O2
  clear PB
  go_upto_region 5 with fail
  clear o0 o1 o2 o3 o4 o5 o6
  generalize v5.setCell ⟨bo, 1, none⟩ (.int .i64 (us + 1)) = v6 at *
  have P1 := put3_butK v6 (w.heap.size + 1) (.int .i64 ep) (.int .i64 (us + 1)) (.slice a' (n + 1) c')
  have RQ := R.set (.int .i64 ep) (.int .i64 (us + 1)) (.slice a' (n + 1) c')
  have P2 := put4_but ((((v6.setCell ⟨w.heap.size + 1, 0, none⟩ (.int .i64 ep)).setCell ⟨w.heap.size + 1, 1, none⟩ (.int .i64 (us + 1))).setCell ⟨w.heap.size + 1, 2, none⟩ (.slice a' (n + 1) c'))) (w.heap.size + 1 + 1) nn x y z
  have RQ2 := (R2.but P1 (by omega)).set nn x y z
  replace RQ := RQ.but P2 (by omega)
  have BQ1 := B.trans (P1.below (B := w.heap.size) (by omega) B.size)
  have BQ := BQ1.trans (P2.below (B := w.heap.size) (by omega) BQ1.size)
  have OQ := ownK_le (base' := w.heap.size) (own_butK (own_butK hown' P1 (by omega)) P2 (by omega)) (by omega)
  have KZ : Hid (World.ownsRow _ _ _ _ _ _ _ ∧ Below _ _ _) := ⟨OQ, BQ⟩
  obtain ⟨o0, o1, o2, o3, -, -, -⟩ := O3
  obtain ⟨⟨k0, k1, k2, k3, k4⟩, -, -, -, -⟩ := Kx
  obtain ⟨r0, r1, r2, r3, r4, r5, r6⟩ := R
  obtain ⟨⟨f0, f1, f2, f3, f4⟩, f5, f6, f7, f8⟩ := R2
  clear P1 P2 BQ1 BQ OQ hown' OL hno
  unfold put4 at RQ RQ2 KZ
  go_region
  clear o0 o1 o2 o3 k0 k1 k2 k3 k4 r0 r1 r2 r3 r4 r5 r6 f0 f1 f2 f3 f4 f5 f6 f7 f8 B
  generalize ((((((v6.setCell ⟨w.heap.size + 1, 0, none⟩ (.int .i64 ep)).setCell ⟨w.heap.size + 1, 1, none⟩ (.int .i64 (us + 1))).setCell ⟨w.heap.size + 1, 2, none⟩ (.slice a' (n + 1) c')).setCell ⟨w.heap.size + 1 + 1, 0, none⟩ (.int .i64 nn)).setCell ⟨w.heap.size + 1 + 1, 1, none⟩ (.int .i64 x)).setCell ⟨w.heap.size + 1 + 1, 2, none⟩ (.int .i64 y)).setCell ⟨w.heap.size + 1 + 1, 3, none⟩ (.int .i64 z) = wz at *
  obtain ⟨q0, q1, q2, q3, -, -, -⟩ := RQ
  obtain ⟨⟨g0, g1, g2, g3, g4⟩, -, -, -, -⟩ := RQ2
  go_wp2_with fail
  exact bodyPost_ret (v := .tuple #[.agg #[.int .i64 ep, .int .i64 (us + 1), .slice a' (n + 1) c'], .agg #[.int .i64 nn, .int .i64 x, .int .i64 y, .int .i64 z]]) (by simp (maxDischargeDepth := 6) [results, Try.results60, go_sem, *]) rfl ⟨a', c', rfl, World.ownsRow.drew KZ.out.1, Below.drew KZ.out.2⟩
end Go.Proofs.Ytgfhcilhibbooaa
namespace Go.Proofs.Ytgfhcilhibbooaa
open Go.RowKit
set_option linter.unusedVariables false
theorem cellO {w : World} {b j i k : Nat} {u : Value} (h : ¬ b = j) : (w.setCell ⟨j, i, none⟩ u).cell? ⟨b, k, none⟩ = w.cell? ⟨b, k, none⟩ := World.cell?_setCell_other _ _ _ _ (fun e => h (congrArg Addr.block e).symm)
theorem Bf4.bel {w w' : World} {B j : Nat} {x0 x1 x2 x3 : Int} (h : Bf4 w j x0 x1 x2 x3) (hb : Below B w w') (hj : j < B) : Bf4 w' j x0 x1 x2 x3 := by
  obtain ⟨⟨h0, c0, c1, c2, c3⟩, f0, f1, f2, f3⟩ := h
  exact ⟨⟨Nat.lt_of_lt_of_le h0 hb.size, by rw [hb.cell (p := ⟨j, 0, none⟩) hj]; exact c0, by rw [hb.cell (p := ⟨j, 1, none⟩) hj]; exact c1, by rw [hb.cell (p := ⟨j, 2, none⟩) hj]; exact c2, by rw [hb.cell (p := ⟨j, 3, none⟩) hj]; exact c3⟩, by rw [hb.frozen (p := ⟨j, 0, none⟩) hj]; exact f0, by rw [hb.frozen (p := ⟨j, 1, none⟩) hj]; exact f1, by rw [hb.frozen (p := ⟨j, 2, none⟩) hj]; exact f2, by rw [hb.frozen (p := ⟨j, 3, none⟩) hj]; exact f3⟩
def cutK (M : Nat → KT) (i j : Nat) : KT := if j < i then M j else M (j + 1)
theorem FA.cut {F : Int → Option KT} {A : Nat → KT} {m i : Nat} (h : FA F A m) (hi : i < m) {x : Int} (hx : (A i).1 = x) : FA (fun q => if q = x then none else F q) (cutK A i) (m - 1) := by
  have at1 : ∀ j, j < m - 1 → ∃ t, t < m ∧ t ≠ i ∧ cutK A i j = A t ∧ t = (if j < i then j else j + 1) := fun j hj => by
    by_cases e : j < i
    · exact ⟨j, by omega, by omega, if_pos e, (if_pos e).symm⟩
    · exact ⟨j + 1, by omega, by omega, if_neg e, (if_neg e).symm⟩
  refine ⟨fun a b hab hb => ?_, fun j hj => ?_, fun q hq => ?_⟩
  · obtain ⟨t, t1, t2, t3, t4⟩ := at1 a (by omega)
    obtain ⟨s, s1, s2, s3, s4⟩ := at1 b hb
    rw [t3, s3]
    refine h.1 t s ?_ s1
    rw [t4, s4]; split <;> split <;> omega
  · obtain ⟨t, t1, t2, t3, _⟩ := at1 j hj
    show (if (cutK A i j).1 = x then none else F (cutK A i j).1) = some (cutK A i j)
    rw [t3]
    refine (if_neg ?_).trans (h.2.1 t t1)
    rw [← hx]
    rcases Nat.lt_or_gt_of_ne t2 with q | q
    · have := h.1 t i q hi; omega
    · have := h.1 i t q t1; omega
  · show (if q = x then none else F q) = none
    by_cases e : q = x
    · exact if_pos e
    · refine (if_neg e).trans (h.2.2 q fun j hj => ?_)
      by_cases e2 : j = i
      · subst e2; rw [hx]; exact fun c => e c.symm
      · by_cases e3 : j < i
        · have := hq j (by omega); unfold cutK at this; rw [if_pos e3] at this; exact this
        · have := hq (j - 1) (by omega); unfold cutK at this; rw [if_neg (by omega), show j - 1 + 1 = j by omega] at this; exact this
set_option maxRecDepth 100000 in
set_option maxHeartbeats 8000000 in
theorem take_any (bx bm n base bo : Nat) (ep us x y0 y1 y2 y3 : Int) (F : Int → Option KT) (w : World) (X : Bx3 w bx (.int .i64 ep) (.int .i64 us) (.map (some bm))) (MP : MapK w bm n F) (hwx : (Lit.int .i64 x).wf = true) (hF : (F x).getD zK = kT y0 y1 y2 y3) (hne : bx ≠ bm) (h2 : base ≤ bm) (h3 : base ≤ w.heap.size) (k0' k1' k2' k3' : Int) (hKb : Bf4 w bo k0' k1' k2' k3') (hbo : bo ≠ bm) :
    Calls Try.prog 40 #[.pointer (some ⟨bx, 0, none⟩), .int .i64 x] w fun e w' => e = .returned (.agg #[.int .i64 y0, .int .i64 y1, .int .i64 y2, .int .i64 y3]) ∧ Bx3 w' bx (.int .i64 ep) (.int .i64 us) (.map (some bm)) ∧ MapK w' bm n (fun q => if q = x then none else F q) ∧ Bf4 w' bo k0' k1' k2' k3' ∧ Below base w w' := by
  have hboj := hKb.1.1
  have A0 := Below.nw w (.cells #[.int .i64 0, .int .i64 0, .int .i64 0, .int .i64 0] 43)
  have R := Bf4.new w 0 0 0 0 43
  have B := A0
  have hbx := X.1
  have hbm := MP.lt
  replace X := X.below A0
  replace MP := MP.below A0
  replace hKb := hKb.below A0
  clear A0
  go_enter Try.func40, Try.ntmps40
  go_upto_region 1 with fail
  generalize w.alloc (.cells #[.int .i64 0, .int .i64 0, .int .i64 0, .int .i64 0] 43) = wa at *
  obtain ⟨x0, x1, x2, x3, -, -, -⟩ := id X
  have hlook := MP.look hwx
  rw [hF] at hlook
  simp only [kv, kT] at hlook
  have hwa : w.heap.size < wa.heap.size := R.1.1
  go_upto_region 2 with fail
  clear x0 x1 x2 x3
  clear hlook hF
  have A1 := Below.nw wa (.cells #[.int .i64 y0, .int .i64 y1, .int .i64 y2, .int .i64 y3] 43)
  have Kx := Bf4.new wa y0 y1 y2 y3 43
  replace X := X.below A1
  replace MP := MP.below A1
  replace R := R.below A1
  replace hKb := hKb.below A1
  replace B := B.trans (A1.mono B.size)
  clear A1
  generalize hbk : wa.heap.size = bk at *
  generalize wa.alloc (.cells #[.int .i64 y0, .int .i64 y1, .int .i64 y2, .int .i64 y3] 43) = wb at *
  obtain ⟨w10, hdel, MP1, hg⟩ := MP.del hwx 0
  have HD : ∀ ty, (Builtin.delete_ #[70, 3] ty #[.map (some bm), .int .i64 x]).run Try.prog wb = .ok (.tuple #[]) w10 := fun ty => hdel
  obtain ⟨x0, x1, x2, x3, -, -, -⟩ := id X
  go_upto_region 3 with fail
  clear x0 x1 x2 x3
  have PB := But.ofGrownK hg
  replace X := X.but PB hne
  replace R := R.but PB (by omega)
  replace Kx := Kx.but PB (by omega)
  replace hKb := hKb.but PB hbo
  have B1 : Below base w w10 := (B.mono h3).trans (PB.below h2 (Nat.le_trans h3 B.size))
  clear hg PB HD hdel MP B
  have P7 := put4_but w10 w.heap.size y0 y1 y2 y3
  have RQ := R.set y0 y1 y2 y3
  have XQ := X.but P7 (by omega)
  have MQ := MP1.but P7 (by omega)
  have KQ := hKb.but P7 (by omega)
  have BQ := B1.trans (P7.below h3 (Nat.le_trans h3 B1.size))
  obtain ⟨⟨r0, r1, r2, r3, r4⟩, r5, r6, r7, r8⟩ := R
  obtain ⟨⟨k0, k1, k2, k3, k4⟩, -, -, -, -⟩ := Kx
  clear X MP1 P7 hKb
  go_wp2_with fail
  unfold put4 at RQ XQ MQ BQ KQ
  generalize (((w10.setCell ⟨w.heap.size, 0, none⟩ (.int .i64 y0)).setCell ⟨w.heap.size, 1, none⟩ (.int .i64 y1)).setCell ⟨w.heap.size, 2, none⟩ (.int .i64 y2)).setCell ⟨w.heap.size, 3, none⟩ (.int .i64 y3) = wq at *
  obtain ⟨⟨q0, q1, q2, q3, q4⟩, -, -, -, -⟩ := RQ
  exact bodyPost_ret (v := .agg #[.int .i64 y0, .int .i64 y1, .int .i64 y2, .int .i64 y3]) (by simp (maxDischargeDepth := 6) [results, Try.results40, go_sem, q1, q2, q3, q4]) rfl ⟨rfl, XQ, MQ, KQ, BQ⟩
set_option maxHeartbeats 8000000 in
theorem implUse_bad (ep us : Int) (a : Option Addr) (n c : Nat) (M : Nat → KT) (x y : Int) (w : World) (hm : n ≤ maxLen) (hf : SrcC w a (n * 4) (MFAsk M)) (hw : ∀ i, i < n → (Lit.int .i64 (M i).1).wf = true) (ht : tabB ep us M n = false) :
    Calls Try.prog 17 #[.agg #[.int .i64 ep, .int .i64 us, .slice a n c], .int .i64 x, .int .i64 y] w fun e w' => ∃ a' c', e = .returned (.tuple #[.agg #[.int .i64 0, .int .i64 0, .slice a' 0 c'], .agg #[.int .i64 0, .int .i64 0, .int .i64 0, .int .i64 0], .int .i64 1]) ∧ w'.ownsRow w.heap.size 43 4 (.slice a' 0 c') 0 (krow M 0) ∧ Below w.heap.size w w' := by
  have N := ((IB3.new w ep us a n c 39).below (Below.nw _ (.cells #[.int .i64 0, .int .i64 0, .slice none 0 0] 39))).below (Below.nw _ (.cells #[.int .i64 0, .int .i64 0, .int .i64 0, .int .i64 0] 43))
  have R := (Bx3.new (w.alloc (.cells #[.int .i64 ep, .int .i64 us, .slice a n c] 39)) (.int .i64 0) (.int .i64 0) (.slice none 0 0) 39).below (Below.nw _ (.cells #[.int .i64 0, .int .i64 0, .int .i64 0, .int .i64 0] 43))
  have R2 := Bf4.new ((w.alloc (.cells #[.int .i64 ep, .int .i64 us, .slice a n c] 39)).alloc (.cells #[.int .i64 0, .int .i64 0, .slice none 0 0] 39)) 0 0 0 0 43
  have A1 := Below.nw w (.cells #[.int .i64 ep, .int .i64 us, .slice a n c] 39)
  have A2 := A1.alloc A1.size (.cells #[.int .i64 0, .int .i64 0, .slice none 0 0] 39)
  have B := A2.alloc A2.size (.cells #[.int .i64 0, .int .i64 0, .int .i64 0, .int .i64 0] 43)
  simp only [World.size_alloc] at R R2
  have C := bookOf_any ep us a n c M _ hm (hf.below B) hw
  clear hf hw A1 A2
  go_enter Try.func17, Try.ntmps17
  go_upto_region 1 with fail
  generalize ((w.alloc (.cells #[.int .i64 ep, .int .i64 us, .slice a n c] 39)).alloc (.cells #[.int .i64 0, .int .i64 0, .slice none 0 0] 39)).alloc (.cells #[.int .i64 0, .int .i64 0, .int .i64 0, .int .i64 0] 43) = wa at *
  have hJ1 : w.heap.size + 1 + 1 < wa.heap.size := R2.1.1
  obtain ⟨n9, n0, n1, n2⟩ := id N
  go_wp2_with fail
  refine C.mono ?_
  rintro e wb ⟨V, rfl, hV0, hV1, hb⟩
  clear n9 n0 n1 n2 N
  replace R := R.below hb
  replace R2 := R2.below hb
  replace B := B.trans (hb.mono B.size)
  clear C
  have hV := hV0 ht
  subst hV
  rw [ht]
  clear hV0 hV1 ht hb
  unfold zbk
  have A2 := Below.nw wb (.cells #[.int .i64 0, .int .i64 0, .map none] 72)
  replace R := R.below A2
  replace R2 := R2.below A2
  replace B := B.trans (A2.mono B.size)
  clear A2
  go_upto_region 2 with fail
  generalize wb.alloc (.cells #[.int .i64 0, .int .i64 0, .map none] 72) = wz at *
  have P1 := put3_butK wz (w.heap.size + 1) (.int .i64 0) (.int .i64 0) (.slice none 0 0)
  have RQ := R.set (.int .i64 0) (.int .i64 0) (.slice none 0 0)
  have P2 := put4_but (((wz.setCell ⟨w.heap.size + 1, 0, none⟩ (.int .i64 0)).setCell ⟨w.heap.size + 1, 1, none⟩ (.int .i64 0)).setCell ⟨w.heap.size + 1, 2, none⟩ (.slice none 0 0)) (w.heap.size + 1 + 1) 0 0 0 0
  have RQ2 := (R2.but P1 (by omega)).set 0 0 0 0
  replace RQ := RQ.but P2 (by omega)
  have BQ1 := B.trans (P1.below (B := w.heap.size) (by omega) B.size)
  have BQ := BQ1.trans (P2.below (B := w.heap.size) (by omega) BQ1.size)
  have OQ := World.ownsRow_nil (put4 (((wz.setCell ⟨w.heap.size + 1, 0, none⟩ (.int .i64 0)).setCell ⟨w.heap.size + 1, 1, none⟩ (.int .i64 0)).setCell ⟨w.heap.size + 1, 2, none⟩ (.slice none 0 0)) (w.heap.size + 1 + 1) 0 0 0 0) w.heap.size 43 4
  have KZ : Hid (World.ownsRow _ _ _ _ _ _ _ ∧ Below _ _ _) := ⟨OQ, BQ⟩
  obtain ⟨r0, r1, r2, r3, r4, r5, r6⟩ := R
  obtain ⟨⟨f0, f1, f2, f3, f4⟩, f5, f6, f7, f8⟩ := R2
  clear P1 P2 BQ1 BQ OQ
  unfold put4 at RQ RQ2 KZ
  go_wp2_with fail
  clear r0 r1 r2 r3 r4 r5 r6 f0 f1 f2 f3 f4 f5 f6 f7 f8
  generalize (((((((wz.setCell ⟨w.heap.size + 1, 0, none⟩ (.int .i64 0)).setCell ⟨w.heap.size + 1, 1, none⟩ (.int .i64 0)).setCell ⟨w.heap.size + 1, 2, none⟩ (.slice none 0 0)).setCell ⟨w.heap.size + 1 + 1, 0, none⟩ (.int .i64 0)).setCell ⟨w.heap.size + 1 + 1, 1, none⟩ (.int .i64 0)).setCell ⟨w.heap.size + 1 + 1, 2, none⟩ (.int .i64 0)).setCell ⟨w.heap.size + 1 + 1, 3, none⟩ (.int .i64 0)) = wq at *
  obtain ⟨q0, q1, q2, q3, -, -, -⟩ := RQ
  obtain ⟨⟨g0, g1, g2, g3, g4⟩, -, -, -, -⟩ := RQ2
  exact bodyPost_ret (v := .tuple #[.agg #[.int .i64 0, .int .i64 0, .slice none 0 0], .agg #[.int .i64 0, .int .i64 0, .int .i64 0, .int .i64 0], .int .i64 1]) (by simp (maxDischargeDepth := 6) [results, Try.results17, go_sem, q1, q2, q3, g1, g2, g3, g4]) rfl ⟨_, _, rfl, KZ.out.1, KZ.out.2⟩
set_option maxHeartbeats 8000000 in
theorem implUse_none (ep us : Int) (a : Option Addr) (n c : Nat) (M : Nat → KT) (x y : Int) (w : World) (hm : n ≤ maxLen) (hf : SrcC w a (n * 4) (MFAsk M)) (hw : ∀ i, i < n → (Lit.int .i64 (M i).1).wf = true) (hwx : (Lit.int .i64 x).wf = true) (ht : tabB ep us M n = true) (HLK : Hid (lkK M n x = none)) :
    Calls Try.prog 17 #[.agg #[.int .i64 ep, .int .i64 us, .slice a n c], .int .i64 x, .int .i64 y] w fun e w' => ∃ a' c', e = .returned (.tuple #[.agg #[.int .i64 ep, .int .i64 us, .slice a' n c'], .agg #[.int .i64 0, .int .i64 0, .int .i64 0, .int .i64 0], .int .i64 4]) ∧ w'.ownsRow w.heap.size 43 4 (.slice a' n c') n (krow M n) ∧ Below w.heap.size w w' := by
  have N := ((IB3.new w ep us a n c 39).below (Below.nw _ (.cells #[.int .i64 0, .int .i64 0, .slice none 0 0] 39))).below (Below.nw _ (.cells #[.int .i64 0, .int .i64 0, .int .i64 0, .int .i64 0] 43))
  have R := (Bx3.new (w.alloc (.cells #[.int .i64 ep, .int .i64 us, .slice a n c] 39)) (.int .i64 0) (.int .i64 0) (.slice none 0 0) 39).below (Below.nw _ (.cells #[.int .i64 0, .int .i64 0, .int .i64 0, .int .i64 0] 43))
  have R2 := Bf4.new ((w.alloc (.cells #[.int .i64 ep, .int .i64 us, .slice a n c] 39)).alloc (.cells #[.int .i64 0, .int .i64 0, .slice none 0 0] 39)) 0 0 0 0 43
  have A1 := Below.nw w (.cells #[.int .i64 ep, .int .i64 us, .slice a n c] 39)
  have A2 := A1.alloc A1.size (.cells #[.int .i64 0, .int .i64 0, .slice none 0 0] 39)
  have B := A2.alloc A2.size (.cells #[.int .i64 0, .int .i64 0, .int .i64 0, .int .i64 0] 43)
  simp only [World.size_alloc] at R R2
  have C := bookOf_any ep us a n c M _ hm (hf.below B) hw
  clear hf hw A1 A2
  go_enter Try.func17, Try.ntmps17
  go_upto_region 1 with fail
  generalize ((w.alloc (.cells #[.int .i64 ep, .int .i64 us, .slice a n c] 39)).alloc (.cells #[.int .i64 0, .int .i64 0, .slice none 0 0] 39)).alloc (.cells #[.int .i64 0, .int .i64 0, .int .i64 0, .int .i64 0] 43) = wa at *
  have hJ1 : w.heap.size + 1 + 1 < wa.heap.size := R2.1.1
  obtain ⟨n9, n0, n1, n2⟩ := id N
  go_wp2_with fail
  refine C.mono ?_
  rintro e wb ⟨V, rfl, hV0, hV1, hb⟩
  clear n9 n0 n1 n2 N
  replace R := R.below hb
  replace R2 := R2.below hb
  replace B := B.trans (hb.mono B.size)
  clear C
  obtain ⟨bm, rfl, hbm, MP⟩ := hV1 ht
  rw [ht]
  have hok := tabB_tOk ht
  have hn16 := tabB_len' ht
  have HFA : Hid (FA (lkK M n) M n) := FA.lk (tOk_asc hok)
  clear hV0 hV1 hok
  have A2 := Below.nw wb (.cells #[.int .i64 ep, .int .i64 us, .map (some bm)] 72)
  have X := Bx3.new wb (.int .i64 ep) (.int .i64 us) (.map (some bm)) 72
  have hmb : bm < wb.heap.size := MP.lt
  have hab := hb.size
  replace R := R.below A2
  replace R2 := R2.below A2
  replace MP := MP.below A2
  replace B := B.trans (A2.mono B.size)
  have hzs := A2.size
  clear A2 hb ht
  go_upto_region 2 with fail
  generalize hbx : wb.heap.size = bx at *
  generalize wb.alloc (.cells #[.int .i64 ep, .int .i64 us, .map (some bm)] 72) = wz at *
  have hlook := MP.look_ok hwx
  rw [HLK.out] at hlook
  simp only [Option.getD, Option.isSome, kv, zK] at hlook
  obtain ⟨x0, x1, x2, x3, -, -, -⟩ := id X
  go_upto_region 5 with fail
  clear x0 x1 x2 x3
  clear hlook
  have A3 := Below.nw wz (.cells #[.int .i64 0, .int .i64 0, .int .i64 0, .int .i64 0] 43)
  have Kx := Bf4.new wz 0 0 0 0 43
  have hzz := X.1
  replace R := R.below A3
  replace R2 := R2.below A3
  replace MP := MP.below A3
  replace X := X.below A3
  replace B := B.trans (A3.mono B.size)
  have hs3 := A3.size
  clear A3
  generalize hbk : wz.heap.size = bk at *
  generalize wz.alloc (.cells #[.int .i64 0, .int .i64 0, .int .i64 0, .int .i64 0] 43) = w3 at *
  go_wp2_with fail
  refine (table_any bx bm n n ep us _ M _ X MP (by omega) HFA.out).mono ?_
  rintro e w6 ⟨a', c', rfl, OW, hb6⟩
  replace R := R.below hb6
  replace R2 := R2.below hb6
  have hw5 : w.heap.size + 1 + 1 < w3.heap.size := by omega
  have hw56 : w.heap.size ≤ w3.heap.size := by omega
  replace B := B.trans (hb6.mono B.size)
  clear hb6 X MP Kx
  have P1 := put3_butK w6 (w.heap.size + 1) (.int .i64 ep) (.int .i64 us) (.slice a' n c')
  have RQ := R.set (.int .i64 ep) (.int .i64 us) (.slice a' n c')
  have P2 := put4_but (((w6.setCell ⟨w.heap.size + 1, 0, none⟩ (.int .i64 ep)).setCell ⟨w.heap.size + 1, 1, none⟩ (.int .i64 us)).setCell ⟨w.heap.size + 1, 2, none⟩ (.slice a' n c')) (w.heap.size + 1 + 1) 0 0 0 0
  have RQ2 := (R2.but P1 (by omega)).set 0 0 0 0
  replace RQ := RQ.but P2 (by omega)
  have BQ1 := B.trans (P1.below (B := w.heap.size) (by omega) B.size)
  have BQ := BQ1.trans (P2.below (B := w.heap.size) (by omega) BQ1.size)
  have OQ := ownK_le (base' := w.heap.size) (own_butK (own_butK OW P1 (by omega)) P2 (by omega)) hw56
  have KZ : Hid (World.ownsRow _ _ _ _ _ _ _ ∧ Below _ _ _) := ⟨OQ, BQ⟩
  obtain ⟨r0, r1, r2, r3, r4, r5, r6⟩ := R
  obtain ⟨⟨f0, f1, f2, f3, f4⟩, f5, f6, f7, f8⟩ := R2
  clear P1 P2 BQ1 BQ OQ
  unfold put4 at RQ RQ2 KZ
  go_wp2_with fail
  clear r0 r1 r2 r3 r4 r5 r6 f0 f1 f2 f3 f4 f5 f6 f7 f8
  generalize (((((((w6.setCell ⟨w.heap.size + 1, 0, none⟩ (.int .i64 ep)).setCell ⟨w.heap.size + 1, 1, none⟩ (.int .i64 us)).setCell ⟨w.heap.size + 1, 2, none⟩ (.slice a' n c')).setCell ⟨w.heap.size + 1 + 1, 0, none⟩ (.int .i64 0)).setCell ⟨w.heap.size + 1 + 1, 1, none⟩ (.int .i64 0)).setCell ⟨w.heap.size + 1 + 1, 2, none⟩ (.int .i64 0)).setCell ⟨w.heap.size + 1 + 1, 3, none⟩ (.int .i64 0)) = wq at *
  obtain ⟨q0, q1, q2, q3, -, -, -⟩ := RQ
  obtain ⟨⟨g0, g1, g2, g3, g4⟩, -, -, -, -⟩ := RQ2
  exact bodyPost_ret (v := .tuple #[.agg #[.int .i64 ep, .int .i64 us, .slice a' n c'], .agg #[.int .i64 0, .int .i64 0, .int .i64 0, .int .i64 0], .int .i64 4]) (by simp (maxDischargeDepth := 6) [results, Try.results17, go_sem, q1, q2, q3, g1, g2, g3, g4]) rfl ⟨_, _, rfl, KZ.out.1, KZ.out.2⟩
set_option maxHeartbeats 8000000 in
theorem implUse_other (ep us : Int) (a : Option Addr) (n c : Nat) (M : Nat → KT) (x y : Int) (w : World) (hm : n ≤ maxLen) (hf : SrcC w a (n * 4) (MFAsk M)) (hw : ∀ i, i < n → (Lit.int .i64 (M i).1).wf = true) (hwx : (Lit.int .i64 x).wf = true) (ht : tabB ep us M n = true) (z0 z1 z2 z3 : Int) (HLK : Hid (lkK M n x = some (kT z0 z1 z2 z3))) (hzy : (z1 != y) = true) :
    Calls Try.prog 17 #[.agg #[.int .i64 ep, .int .i64 us, .slice a n c], .int .i64 x, .int .i64 y] w fun e w' => ∃ a' c', e = .returned (.tuple #[.agg #[.int .i64 ep, .int .i64 us, .slice a' n c'], .agg #[.int .i64 0, .int .i64 0, .int .i64 0, .int .i64 0], .int .i64 5]) ∧ w'.ownsRow w.heap.size 43 4 (.slice a' n c') n (krow M n) ∧ Below w.heap.size w w' := by
  have N := ((IB3.new w ep us a n c 39).below (Below.nw _ (.cells #[.int .i64 0, .int .i64 0, .slice none 0 0] 39))).below (Below.nw _ (.cells #[.int .i64 0, .int .i64 0, .int .i64 0, .int .i64 0] 43))
  have R := (Bx3.new (w.alloc (.cells #[.int .i64 ep, .int .i64 us, .slice a n c] 39)) (.int .i64 0) (.int .i64 0) (.slice none 0 0) 39).below (Below.nw _ (.cells #[.int .i64 0, .int .i64 0, .int .i64 0, .int .i64 0] 43))
  have R2 := Bf4.new ((w.alloc (.cells #[.int .i64 ep, .int .i64 us, .slice a n c] 39)).alloc (.cells #[.int .i64 0, .int .i64 0, .slice none 0 0] 39)) 0 0 0 0 43
  have A1 := Below.nw w (.cells #[.int .i64 ep, .int .i64 us, .slice a n c] 39)
  have A2 := A1.alloc A1.size (.cells #[.int .i64 0, .int .i64 0, .slice none 0 0] 39)
  have B := A2.alloc A2.size (.cells #[.int .i64 0, .int .i64 0, .int .i64 0, .int .i64 0] 43)
  simp only [World.size_alloc] at R R2
  have C := bookOf_any ep us a n c M _ hm (hf.below B) hw
  clear hf hw A1 A2
  go_enter Try.func17, Try.ntmps17
  go_upto_region 1 with fail
  generalize ((w.alloc (.cells #[.int .i64 ep, .int .i64 us, .slice a n c] 39)).alloc (.cells #[.int .i64 0, .int .i64 0, .slice none 0 0] 39)).alloc (.cells #[.int .i64 0, .int .i64 0, .int .i64 0, .int .i64 0] 43) = wa at *
  have hJ1 : w.heap.size + 1 + 1 < wa.heap.size := R2.1.1
  obtain ⟨n9, n0, n1, n2⟩ := id N
  go_wp2_with fail
  refine C.mono ?_
  rintro e wb ⟨V, rfl, hV0, hV1, hb⟩
  clear n9 n0 n1 n2 N
  replace R := R.below hb
  replace R2 := R2.below hb
  replace B := B.trans (hb.mono B.size)
  clear C
  obtain ⟨bm, rfl, hbm, MP⟩ := hV1 ht
  rw [ht]
  have hok := tabB_tOk ht
  have hn16 := tabB_len' ht
  have HFA : Hid (FA (lkK M n) M n) := FA.lk (tOk_asc hok)
  clear hV0 hV1 hok
  have A2 := Below.nw wb (.cells #[.int .i64 ep, .int .i64 us, .map (some bm)] 72)
  have X := Bx3.new wb (.int .i64 ep) (.int .i64 us) (.map (some bm)) 72
  have hmb : bm < wb.heap.size := MP.lt
  have hab := hb.size
  replace R := R.below A2
  replace R2 := R2.below A2
  replace MP := MP.below A2
  replace B := B.trans (A2.mono B.size)
  have hzs := A2.size
  clear A2 hb ht
  go_upto_region 2 with fail
  generalize hbx : wb.heap.size = bx at *
  generalize wb.alloc (.cells #[.int .i64 ep, .int .i64 us, .map (some bm)] 72) = wz at *
  have hlook := MP.look_ok hwx
  rw [HLK.out] at hlook
  simp only [Option.getD, Option.isSome, kv, kT] at hlook
  obtain ⟨x0, x1, x2, x3, -, -, -⟩ := id X
  go_upto_region 5 with fail
  clear x0 x1 x2 x3
  clear hlook
  have A3 := Below.nw wz (.cells #[.int .i64 z0, .int .i64 z1, .int .i64 z2, .int .i64 z3] 43)
  have Kx := Bf4.new wz z0 z1 z2 z3 43
  have hzz := X.1
  replace R := R.below A3
  replace R2 := R2.below A3
  replace MP := MP.below A3
  replace X := X.below A3
  replace B := B.trans (A3.mono B.size)
  have hs3 := A3.size
  clear A3
  generalize hbk : wz.heap.size = bk at *
  generalize wz.alloc (.cells #[.int .i64 z0, .int .i64 z1, .int .i64 z2, .int .i64 z3] 43) = w3 at *
  obtain ⟨⟨k0, k1, k2, k3, k4⟩, -, -, -, -⟩ := id Kx
  go_wp2_with fail
  clear k0 k1 k2 k3 k4
  refine (table_any bx bm n n ep us _ M _ X MP (by omega) HFA.out).mono ?_
  rintro e w6 ⟨a', c', rfl, OW, hb6⟩
  replace R := R.below hb6
  replace R2 := R2.below hb6
  have hw5 : w.heap.size + 1 + 1 < w3.heap.size := by omega
  have hw56 : w.heap.size ≤ w3.heap.size := by omega
  replace B := B.trans (hb6.mono B.size)
  clear hb6 X MP Kx
  have P1 := put3_butK w6 (w.heap.size + 1) (.int .i64 ep) (.int .i64 us) (.slice a' n c')
  have RQ := R.set (.int .i64 ep) (.int .i64 us) (.slice a' n c')
  have P2 := put4_but (((w6.setCell ⟨w.heap.size + 1, 0, none⟩ (.int .i64 ep)).setCell ⟨w.heap.size + 1, 1, none⟩ (.int .i64 us)).setCell ⟨w.heap.size + 1, 2, none⟩ (.slice a' n c')) (w.heap.size + 1 + 1) 0 0 0 0
  have RQ2 := (R2.but P1 (by omega)).set 0 0 0 0
  replace RQ := RQ.but P2 (by omega)
  have BQ1 := B.trans (P1.below (B := w.heap.size) (by omega) B.size)
  have BQ := BQ1.trans (P2.below (B := w.heap.size) (by omega) BQ1.size)
  have OQ := ownK_le (base' := w.heap.size) (own_butK (own_butK OW P1 (by omega)) P2 (by omega)) hw56
  have KZ : Hid (World.ownsRow _ _ _ _ _ _ _ ∧ Below _ _ _) := ⟨OQ, BQ⟩
  obtain ⟨r0, r1, r2, r3, r4, r5, r6⟩ := R
  obtain ⟨⟨f0, f1, f2, f3, f4⟩, f5, f6, f7, f8⟩ := R2
  clear P1 P2 BQ1 BQ OQ
  unfold put4 at RQ RQ2 KZ
  go_wp2_with fail
  clear r0 r1 r2 r3 r4 r5 r6 f0 f1 f2 f3 f4 f5 f6 f7 f8
  generalize (((((((w6.setCell ⟨w.heap.size + 1, 0, none⟩ (.int .i64 ep)).setCell ⟨w.heap.size + 1, 1, none⟩ (.int .i64 us)).setCell ⟨w.heap.size + 1, 2, none⟩ (.slice a' n c')).setCell ⟨w.heap.size + 1 + 1, 0, none⟩ (.int .i64 0)).setCell ⟨w.heap.size + 1 + 1, 1, none⟩ (.int .i64 0)).setCell ⟨w.heap.size + 1 + 1, 2, none⟩ (.int .i64 0)).setCell ⟨w.heap.size + 1 + 1, 3, none⟩ (.int .i64 0)) = wq at *
  obtain ⟨q0, q1, q2, q3, -, -, -⟩ := RQ
  obtain ⟨⟨g0, g1, g2, g3, g4⟩, -, -, -, -⟩ := RQ2
  exact bodyPost_ret (v := .tuple #[.agg #[.int .i64 ep, .int .i64 us, .slice a' n c'], .agg #[.int .i64 0, .int .i64 0, .int .i64 0, .int .i64 0], .int .i64 5]) (by simp (maxDischargeDepth := 6) [results, Try.results17, go_sem, q1, q2, q3, g1, g2, g3, g4]) rfl ⟨_, _, rfl, KZ.out.1, KZ.out.2⟩
set_option maxRecDepth 100000 in
set_option maxHeartbeats 8000000 in
theorem implUse_done (ep us : Int) (a : Option Addr) (n c : Nat) (M : Nat → KT) (x : Int) (w : World) (hm : n ≤ maxLen) (hf : SrcC w a (n * 4) (MFAsk M)) (hw : ∀ i, i < n → (Lit.int .i64 (M i).1).wf = true) (hwx : (Lit.int .i64 x).wf = true) (ht : tabB ep us M n = true) (z0 z1 z2 z3 : Int) (i : Nat) (hin : i < n) (hMi : Hid (M i = kT z0 z1 z2 z3)) (hx : Hid (z0 = x)) :
    Calls Try.prog 17 #[.agg #[.int .i64 ep, .int .i64 us, .slice a n c], .int .i64 x, .int .i64 z1] w fun e w' => ∃ a' c', e = .returned (.tuple #[.agg #[.int .i64 ep, .int .i64 us, .slice a' (n - 1) c'], .agg #[.int .i64 z0, .int .i64 z1, .int .i64 z2, .int .i64 z3], .int .i64 0]) ∧ w'.ownsRow w.heap.size 43 4 (.slice a' (n - 1) c') (n - 1) (krow (cutK M i) (n - 1)) ∧ Below w.heap.size w w' := by
  have HM1 : Hid ((M i).1 = x) := by rw [Hid, hMi.out]; exact hx.out
  have HLK : Hid (lkK M n x = some (kT z0 z1 z2 z3)) := by
    have := lkK_at (tOk_asc (tabB_tOk ht)) hin
    rw [HM1.out, hMi.out] at this
    exact this
  clear hx hMi
  have N := ((IB3.new w ep us a n c 39).below (Below.nw _ (.cells #[.int .i64 0, .int .i64 0, .slice none 0 0] 39))).below (Below.nw _ (.cells #[.int .i64 0, .int .i64 0, .int .i64 0, .int .i64 0] 43))
  have R := (Bx3.new (w.alloc (.cells #[.int .i64 ep, .int .i64 us, .slice a n c] 39)) (.int .i64 0) (.int .i64 0) (.slice none 0 0) 39).below (Below.nw _ (.cells #[.int .i64 0, .int .i64 0, .int .i64 0, .int .i64 0] 43))
  have R2 := Bf4.new ((w.alloc (.cells #[.int .i64 ep, .int .i64 us, .slice a n c] 39)).alloc (.cells #[.int .i64 0, .int .i64 0, .slice none 0 0] 39)) 0 0 0 0 43
  have A1 := Below.nw w (.cells #[.int .i64 ep, .int .i64 us, .slice a n c] 39)
  have A2 := A1.alloc A1.size (.cells #[.int .i64 0, .int .i64 0, .slice none 0 0] 39)
  have B := A2.alloc A2.size (.cells #[.int .i64 0, .int .i64 0, .int .i64 0, .int .i64 0] 43)
  simp only [World.size_alloc] at R R2
  have C := bookOf_any ep us a n c M _ hm (hf.below B) hw
  clear hf hw A1 A2
  go_enter Try.func17, Try.ntmps17
  go_upto_region 1 with fail
  generalize ((w.alloc (.cells #[.int .i64 ep, .int .i64 us, .slice a n c] 39)).alloc (.cells #[.int .i64 0, .int .i64 0, .slice none 0 0] 39)).alloc (.cells #[.int .i64 0, .int .i64 0, .int .i64 0, .int .i64 0] 43) = wa at *
  have hJ1 : w.heap.size + 1 + 1 < wa.heap.size := R2.1.1
  obtain ⟨n9, n0, n1, n2⟩ := id N
  go_wp2_with fail
  refine C.mono ?_
  rintro e wb ⟨V, rfl, hV0, hV1, hb⟩
  clear n9 n0 n1 n2 N
  replace R := R.below hb
  replace R2 := R2.below hb
  replace B := B.trans (hb.mono B.size)
  clear C
  obtain ⟨bm, rfl, hbm, MP⟩ := hV1 ht
  rw [ht]
  have hok := tabB_tOk ht
  have hn16 := tabB_len' ht
  have HFA : Hid (FA (lkK M n) M n) := FA.lk (tOk_asc hok)
  clear hV0 hV1 hok
  have A2 := Below.nw wb (.cells #[.int .i64 ep, .int .i64 us, .map (some bm)] 72)
  have X := Bx3.new wb (.int .i64 ep) (.int .i64 us) (.map (some bm)) 72
  have hmb : bm < wb.heap.size := MP.lt
  have hab := hb.size
  replace R := R.below A2
  replace R2 := R2.below A2
  replace MP := MP.below A2
  replace B := B.trans (A2.mono B.size)
  have hzs := A2.size
  clear A2 hb ht
  go_upto_region 2 with fail
  generalize hbx : wb.heap.size = bx at *
  generalize wb.alloc (.cells #[.int .i64 ep, .int .i64 us, .map (some bm)] 72) = wz at *
  have hlook := MP.look_ok hwx
  rw [HLK.out] at hlook
  simp only [Option.getD, Option.isSome, kv, kT] at hlook
  obtain ⟨x0, x1, x2, x3, -, -, -⟩ := id X
  go_upto_region 5 with fail
  clear x0 x1 x2 x3
  clear hlook
  have A3 := Below.nw wz (.cells #[.int .i64 z0, .int .i64 z1, .int .i64 z2, .int .i64 z3] 43)
  have Kx := Bf4.new wz z0 z1 z2 z3 43
  have hzz := X.1
  replace R := R.below A3
  replace R2 := R2.below A3
  replace MP := MP.below A3
  replace X := X.below A3
  replace B := B.trans (A3.mono B.size)
  have hs3 := A3.size
  clear A3
  generalize hbk : wz.heap.size = bk at *
  generalize wz.alloc (.cells #[.int .i64 z0, .int .i64 z1, .int .i64 z2, .int .i64 z3] 43) = w3 at *
  have HFC : Hid (FA (fun q => if q = x then none else lkK M n q) (cutK M i) (n - 1)) := HFA.out.cut hin HM1.out
  obtain ⟨⟨k0, k1, k2, k3, k4⟩, -, -, -, -⟩ := id Kx
  go_wp2_with fail
  clear k0 k1 k2 k3 k4
  refine (take_any bx bm n wa.heap.size bk ep us x z0 z1 z2 z3 _ _ X MP hwx (by rw [HLK.out]; rfl) (by omega) (by omega) (by omega) z0 z1 z2 z3 Kx (by omega)).mono ?_
  rintro e w5 ⟨rfl, X5, MP5, KXP, hb5⟩
  have hR5 := hJ1
  replace R : Bx3 w5 (w.heap.size + 1) (.int .i64 0) (.int .i64 0) (.slice none 0 0) := by
    obtain ⟨h0, c0, c1, c2, f0, f1, f2⟩ := R
    have hJ0 : w.heap.size + 1 < wa.heap.size := by omega
    exact ⟨Nat.lt_of_lt_of_le h0 hb5.size, by rw [hb5.cell (p := ⟨w.heap.size + 1, 0, none⟩) hJ0]; exact c0, by rw [hb5.cell (p := ⟨w.heap.size + 1, 1, none⟩) hJ0]; exact c1, by rw [hb5.cell (p := ⟨w.heap.size + 1, 2, none⟩) hJ0]; exact c2, by rw [hb5.frozen (p := ⟨w.heap.size + 1, 0, none⟩) hJ0]; exact f0, by rw [hb5.frozen (p := ⟨w.heap.size + 1, 1, none⟩) hJ0]; exact f1, by rw [hb5.frozen (p := ⟨w.heap.size + 1, 2, none⟩) hJ0]; exact f2⟩
  replace R2 : Bf4 w5 (w.heap.size + 1 + 1) 0 0 0 0 := R2.bel hb5 hJ1
  replace Kx : Bf4 w5 bk z0 z1 z2 z3 := KXP
  replace B := B.trans (hb5.mono (by omega))
  have hs5 := hb5.size
  clear hb5 X MP
  have hd1 : ¬ bk = w.heap.size + 1 := by omega
  have hd2 : ¬ bk = w.heap.size + 1 + 1 := by omega
  go_upto_region 10 with fail
  obtain ⟨⟨k0, k1, k2, k3, k4⟩, -, -, -, -⟩ := id Kx
  refine wp_region_held_drew (S := (fun w' => w'.cell? ⟨bk, 0, none⟩ = some (.int .i64 z0) ∧ w'.cell? ⟨bk, 1, none⟩ = some (.int .i64 z1) ∧ w'.cell? ⟨bk, 2, none⟩ = some (.int .i64 z2) ∧ w'.cell? ⟨bk, 3, none⟩ = some (.int .i64 z3))) (by kernel_rfl) ?_ (fun hHeld => ?_)
  · first | (simp only [cellO hd2]; simp only [cellO hd1]; exact ⟨k1, k2, k3, k4⟩) | (simp only [cellO hd1]; exact ⟨k1, k2, k3, k4⟩) | exact ⟨k1, k2, k3, k4⟩
  clear k0 k1 k2 k3 k4
  replace X5 := X5.drew
  replace MP5 := MP5.drew
  replace R := R.drew
  replace R2 := R2.drew
  replace Kx := Kx.drew
  replace B := Below.drew B
  replace hs5 : w3.heap.size ≤ w5.drew.heap.size := hs5
  generalize w5.drew = w8 at *
  (obtain ⟨⟨k0, k1, k2, k3, k4⟩, -, -, -, -⟩ := id Kx)
  refine wpAnyH_take (i := 1) (v := ?_) (by rw [List.getElem?_toArray]; rfl) (by kernel_rfl) (by kernel_rfl) (by kernel_rfl) (by intro _ _ _ h; exact h) (Or.inl ⟨by rfl, ?_⟩) (by assumption) ?_
  rotate_left
  · (intro w hSw; (try dsimp only at hSw); go_simp; all_goals with_reducible rfl)
  (try simp only [Act.put, List.setIfInBounds_toArray, List.set_cons_zero, List.set_cons_succ])
  refine wpAnyH_ready (rs := [0]) (by kernel_rfl) (by simp) ?_
  refine (AllReadyH.cons (by rw [List.getElem?_toArray]; rfl) (fun K hK => ?_) AllReadyH.nil)
  go_simp
  refine (table_any bx bm n (n - 1) ep us _ (cutK M i) _ X5 MP5 (by omega) HFC.out).mono ?_; rintro e w9 ⟨a', c', rfl, OW, hb⟩; (have hw56 : w.heap.size ≤ w8.heap.size := B.size); (have hw57 : w.heap.size + 1 + 1 < w8.heap.size := R2.1.1); (have hkb : bk < w8.heap.size := Kx.1.1); (replace R := R.below hb); (replace R2 := R2.below hb); clear k0 k1 k2 k3 k4; (replace Kx := Kx.below hb); (replace B := B.trans (hb.mono B.size)); clear hb X5 MP5; (obtain ⟨⟨k0, k1, k2, k3, k4⟩, -, -, -, -⟩ := id Kx); (obtain ⟨r0, r1, r2, r3, r4, r5, r6⟩ := id R); (obtain ⟨⟨f0, f1, f2, f3, f4⟩, f5, f6, f7, f8⟩ := id R2)
  (try go_wp2_with fail)
  refine hK.out _ _ ?_ (fun hHeld => ?_)
  · first | (simp only [cellO hd2]; simp only [cellO hd1]; exact ⟨k1, k2, k3, k4⟩) | (simp only [cellO hd1]; exact ⟨k1, k2, k3, k4⟩) | exact ⟨k1, k2, k3, k4⟩
  clear hK K
  (try simp only [Act.put, List.setIfInBounds_toArray, List.set_cons_zero, List.set_cons_succ])
  refine wpAnyH_ready (rs := [2]) (by kernel_rfl) (by simp) ?_
  refine (AllReadyH.cons (by rw [List.getElem?_toArray]; rfl) (fun K hK => ?_) AllReadyH.nil)
  go_simp
  refine hK.out _ _ ?_ (fun hHeld => ?_)
  · first | (simp only [cellO hd2]; simp only [cellO hd1]; exact ⟨k1, k2, k3, k4⟩) | (simp only [cellO hd1]; exact ⟨k1, k2, k3, k4⟩) | exact ⟨k1, k2, k3, k4⟩
  clear hK K
  (try simp only [Act.put, List.setIfInBounds_toArray, List.set_cons_zero, List.set_cons_succ])
  refine wpAnyH_ready (rs := [3]) (by kernel_rfl) (by simp) ?_
  refine (AllReadyH.cons (by rw [List.getElem?_toArray]; rfl) (fun K hK => ?_) AllReadyH.nil)
  go_simp
  refine hK.out _ _ ?_ (fun hHeld => ?_)
  · first | (simp only [cellO hd2]; simp only [cellO hd1]; exact ⟨k1, k2, k3, k4⟩) | (simp only [cellO hd1]; exact ⟨k1, k2, k3, k4⟩) | exact ⟨k1, k2, k3, k4⟩
  clear hK K
  (try simp only [Act.put, List.setIfInBounds_toArray, List.set_cons_zero, List.set_cons_succ])
  refine wpAnyH_take (i := 4) (v := ?_) (by rw [List.getElem?_toArray]; rfl) (by kernel_rfl) (by kernel_rfl) (by kernel_rfl) (by intro _ _ _ h; exact h) (Or.inl ⟨by rfl, ?_⟩) (by assumption) ?_
  rotate_left
  · (intro w hSw; (try dsimp only at hSw); go_simp; all_goals with_reducible rfl)
  (try simp only [Act.put, List.setIfInBounds_toArray, List.set_cons_zero, List.set_cons_succ])
  refine wpAnyH_done (by kernel_rfl) ?_ _
  clear r0 r1 r2 r3 r4 r5 r6 f0 f1 f2 f3 f4 f5 f6 f7 f8 k0 k1 k2 k3 k4
  have P1 := put3_butK w9 (w.heap.size + 1) (.int .i64 ep) (.int .i64 us) (.slice a' (n - 1) c')
  have RQ := R.set (.int .i64 ep) (.int .i64 us) (.slice a' (n - 1) c')
  have P2 := put4_but (((w9.setCell ⟨w.heap.size + 1, 0, none⟩ (.int .i64 ep)).setCell ⟨w.heap.size + 1, 1, none⟩ (.int .i64 us)).setCell ⟨w.heap.size + 1, 2, none⟩ (.slice a' (n - 1) c')) (w.heap.size + 1 + 1) z0 z1 z2 z3
  have RQ2 := (R2.but P1 (by omega)).set z0 z1 z2 z3
  replace RQ := RQ.but P2 (by omega)
  have BQ1 := B.trans (P1.below (B := w.heap.size) (by omega) B.size)
  have BQ := BQ1.trans (P2.below (B := w.heap.size) (by omega) BQ1.size)
  have OQ := ownK_le (base' := w.heap.size) (own_butK (own_butK OW P1 (by omega)) P2 (by omega)) hw56
  have KZ : Hid (World.ownsRow _ _ _ _ _ _ _ ∧ Below _ _ _) := ⟨OQ, BQ⟩
  obtain ⟨r0, r1, r2, r3, r4, r5, r6⟩ := R
  obtain ⟨⟨f0, f1, f2, f3, f4⟩, f5, f6, f7, f8⟩ := R2
  clear P1 P2 BQ1 BQ OQ
  unfold put4 at RQ RQ2 KZ
  go_wp2_with fail
  clear r0 r1 r2 r3 r4 r5 r6 f0 f1 f2 f3 f4 f5 f6 f7 f8
  generalize (((((((w9.setCell ⟨w.heap.size + 1, 0, none⟩ (.int .i64 ep)).setCell ⟨w.heap.size + 1, 1, none⟩ (.int .i64 us)).setCell ⟨w.heap.size + 1, 2, none⟩ (.slice a' (n - 1) c')).setCell ⟨w.heap.size + 1 + 1, 0, none⟩ (.int .i64 z0)).setCell ⟨w.heap.size + 1 + 1, 1, none⟩ (.int .i64 z1)).setCell ⟨w.heap.size + 1 + 1, 2, none⟩ (.int .i64 z2)).setCell ⟨w.heap.size + 1 + 1, 3, none⟩ (.int .i64 z3)) = wq at *
  obtain ⟨q0, q1, q2, q3, -, -, -⟩ := RQ
  obtain ⟨⟨g0, g1, g2, g3, g4⟩, -, -, -, -⟩ := RQ2
  exact bodyPost_ret (v := .tuple #[.agg #[.int .i64 ep, .int .i64 us, .slice a' (n - 1) c'], .agg #[.int .i64 z0, .int .i64 z1, .int .i64 z2, .int .i64 z3], .int .i64 0]) (by simp (maxDischargeDepth := 6) [results, Try.results17, go_sem, q1, q2, q3, g1, g2, g3, g4]) rfl ⟨_, _, rfl, KZ.out.1, KZ.out.2⟩
end Go.Proofs.Ytgfhcilhibbooaa
namespace Go.Proofs.Ytgfhcilhibbooaa
open Go.RowKit
set_option linter.unusedVariables false
theorem But.newK {w w' w'' : World} {p j : Nat} (h : But p w w') (hb : But j w' w'') (hj : w.heap.size ≤ j) : But p w w'' :=
  ⟨hb.1.trans h.1, hb.2.1.trans h.2.1, hb.2.2.1.trans h.2.2.1, Nat.le_trans h.2.2.2.1 hb.2.2.2.1, fun k hk hp => (hb.2.2.2.2 k (Nat.lt_of_lt_of_le hk h.2.2.2.1) (by omega)).trans (h.2.2.2.2 k hk hp)⟩
theorem But.growK {w w' w'' : World} {p : Nat} {o : Option Nat} (h : But p w w') (hg : w'.grownBy w'' o) (ho : ∀ q, q < w.heap.size → some q ≠ o) : But p w w'' :=
  ⟨hg.os.trans h.1, hg.tape.trans h.2.1, hg.output.trans h.2.2.1, Nat.le_trans h.2.2.2.1 hg.size, fun k hk hp => (hg.block k (Nat.lt_of_lt_of_le hk h.2.2.2.1) (ho k hk)).trans (h.2.2.2.2 k hk hp)⟩
/- A list of asks as a function of the place. -/
def rowL (L : List KT) (j : Nat) : KT := L.getD j zK
theorem rowL_app {L : List KT} {a : KT} {j : Nat} : rowL (L ++ [a]) j = if j = L.length then a else rowL L j := by
  unfold rowL
  by_cases h : j = L.length
  · rw [if_pos h, h]; simp
  · rw [if_neg h]
    by_cases h2 : j < L.length
    · simp [List.getElem?_append_left h2]
    · have e1 : (L ++ [a])[j]? = none := List.getElem?_eq_none (by simp; omega)
      have e2 : L[j]? = none := List.getElem?_eq_none (by omega)
      simp [e1, e2]
theorem krowL_add (L : List KT) (x0 x1 x2 x3 : Int) : krow (rowL L) L.length ++ [.int .i64 x0, .int .i64 x1, .int .i64 x2, .int .i64 x3] = krow (rowL (L ++ [kT x0 x1 x2 x3])) (L.length + 1) := by
  have e : krow (rowL L) L.length = krow (rowL (L ++ [kT x0 x1 x2 x3])) L.length := krow_congr fun j hj => by rw [rowL_app, if_neg (by omega)]
  rw [e]
  refine krow_add ?_
  rw [rowL_app, if_pos rfl]
  rfl
def FL (F : Int → Option KT) (L : List KT) : Prop := FA F (rowL L) L.length
theorem FA.congr {F : Int → Option KT} {A C : Nat → KT} {m : Nat} (h : FA F A m) (e : ∀ j, j < m → A j = C j) : FA F C m :=
  ⟨fun i j hij hj => by rw [← e i (by omega), ← e j hj]; exact h.1 i j hij hj, fun j hj => by rw [← e j hj]; exact h.2.1 j hj, fun x hx => h.2.2 x fun j hj => by rw [e j hj]; exact hx j hj⟩
theorem rowL_mid {L1 L2 : List KT} {a : KT} : rowL (L1 ++ a :: L2) L1.length = a := by simp [rowL]
theorem FL.at {F : Int → Option KT} {L1 L2 : List KT} {a : KT} (h : FL F (L1 ++ a :: L2)) : F a.1 = some a := by
  have := h.2.1 L1.length (by simp)
  rw [rowL_mid] at this
  exact this
theorem FL.cut {F : Int → Option KT} {L1 L2 : List KT} {a : KT} (h : FL F (L1 ++ a :: L2)) : FL (fun q => if q = a.1 then none else F q) (L1 ++ L2) := by
  have h1 := FA.cut (i := L1.length) h (by simp) (x := a.1) (by rw [rowL_mid])
  have e : (L1 ++ a :: L2).length - 1 = (L1 ++ L2).length := by simp
  rw [e] at h1
  refine h1.congr fun j hj => ?_
  unfold cutK rowL
  by_cases q : j < L1.length
  · rw [if_pos q]; simp [List.getElem?_append_left q]
  · rw [if_neg q]
    have e1 : (L1 ++ a :: L2)[j + 1]? = L2[j - L1.length]? := by
      rw [List.getElem?_append_right (by omega), show j + 1 - L1.length = (j - L1.length) + 1 by omega, List.getElem?_cons_succ]
    have e2 : (L1 ++ L2)[j]? = L2[j - L1.length]? := List.getElem?_append_right (by omega)
    simp [e1, e2]
def ltB (x p : Int) (K : KT) : Bool := decide (p < x - K.2.2.1)
def gon (x p : Int) (L : List KT) : List KT := L.filter (ltB x p)
def kep (x p : Int) (L : List KT) : List KT := L.filter (fun K => !ltB x p K)
theorem gon_snoc {x p : Int} {L : List KT} {a : KT} : gon x p (L ++ [a]) = if ltB x p a = true then gon x p L ++ [a] else gon x p L := by
  unfold gon
  rw [List.filter_append]
  by_cases h : ltB x p a = true
  · rw [if_pos h]; simp [h]
  · rw [if_neg h]; simp [h]
theorem kep_snoc {x p : Int} {L : List KT} {a : KT} : kep x p (L ++ [a]) = if ltB x p a = true then kep x p L else kep x p L ++ [a] := by
  unfold kep
  rw [List.filter_append]
  by_cases h : ltB x p a = true
  · rw [if_pos h]; simp [h]
  · rw [if_neg h]; simp [h]
theorem gon_le (x p : Int) (L : List KT) : (gon x p L).length ≤ L.length := List.length_filter_le _ _
theorem kep_le (x p : Int) (L : List KT) : (kep x p L).length ≤ L.length := List.length_filter_le _ _
theorem take_snoc {L : List KT} {k : Nat} {a : KT} (h : L[k]? = some a) : L.take (k + 1) = L.take k ++ [a] ∧ L.drop k = a :: L.drop (k + 1) := by
  have hk : k < L.length := (List.getElem?_eq_some_iff.1 h).1
  have ha : L[k] = a := (List.getElem?_eq_some_iff.1 h).2
  exact ⟨by rw [List.take_add_one, h]; rfl, by rw [List.drop_eq_getElem_cons hk, ha]⟩
/- A list read off a row. -/
def lst (M : Nat → KT) (n : Nat) : List KT := (List.range n).map M
theorem lst_len (M : Nat → KT) (n : Nat) : (lst M n).length = n := by simp [lst]
theorem lst_at {M : Nat → KT} {n j : Nat} (h : j < n) : (lst M n)[j]? = some (M j) := by simp [lst, h]
theorem rowL_lst {M : Nat → KT} {n j : Nat} (h : j < n) : rowL (lst M n) j = M j := by unfold rowL; rw [List.getD_eq_getElem?_getD, lst_at h]; rfl
theorem FL_lst {F : Int → Option KT} {M : Nat → KT} {n : Nat} (h : FA F M n) : FL F (lst M n) := by
  unfold FL
  rw [lst_len]
  exact h.congr fun j hj => (rowL_lst hj).symm
set_option maxRecDepth 100000 in
set_option maxHeartbeats 8000000 in
theorem take_but (bx bm n : Nat) (ep us x y0 y1 y2 y3 : Int) (F : Int → Option KT) (w : World) (X : Bx3 w bx (.int .i64 ep) (.int .i64 us) (.map (some bm))) (MP : MapK w bm n F) (hwx : (Lit.int .i64 x).wf = true) (hF : (F x).getD zK = kT y0 y1 y2 y3) (hne : bx ≠ bm) :
    Calls Try.prog 40 #[.pointer (some ⟨bx, 0, none⟩), .int .i64 x] w fun e w' => e = .returned (.agg #[.int .i64 y0, .int .i64 y1, .int .i64 y2, .int .i64 y3]) ∧ Bx3 w' bx (.int .i64 ep) (.int .i64 us) (.map (some bm)) ∧ MapK w' bm n (fun q => if q = x then none else F q) ∧ But bm w w' := by
  have A0 := Below.nw w (.cells #[.int .i64 0, .int .i64 0, .int .i64 0, .int .i64 0] 43)
  have R := Bf4.new w 0 0 0 0 43
  have B := A0
  have hbx := X.1
  have hbm := MP.lt
  replace X := X.below A0
  replace MP := MP.below A0
  clear A0
  go_enter Try.func40, Try.ntmps40
  go_upto_region 1 with fail
  generalize w.alloc (.cells #[.int .i64 0, .int .i64 0, .int .i64 0, .int .i64 0] 43) = wa at *
  obtain ⟨x0, x1, x2, x3, -, -, -⟩ := id X
  have hlook := MP.look hwx
  rw [hF] at hlook
  simp only [kv, kT] at hlook
  have hwa : w.heap.size < wa.heap.size := R.1.1
  go_upto_region 2 with fail
  clear x0 x1 x2 x3
  clear hlook hF
  have A1 := Below.nw wa (.cells #[.int .i64 y0, .int .i64 y1, .int .i64 y2, .int .i64 y3] 43)
  have Kx := Bf4.new wa y0 y1 y2 y3 43
  replace X := X.below A1
  replace MP := MP.below A1
  replace R := R.below A1
  replace B := B.trans (A1.mono B.size)
  clear A1
  generalize hbk : wa.heap.size = bk at *
  generalize wa.alloc (.cells #[.int .i64 y0, .int .i64 y1, .int .i64 y2, .int .i64 y3] 43) = wb at *
  obtain ⟨w10, hdel, MP1, hg⟩ := MP.del hwx 0
  have HD : ∀ ty, (Builtin.delete_ #[70, 3] ty #[.map (some bm), .int .i64 x]).run Try.prog wb = .ok (.tuple #[]) w10 := fun ty => hdel
  obtain ⟨x0, x1, x2, x3, -, -, -⟩ := id X
  go_upto_region 3 with fail
  clear x0 x1 x2 x3
  have PB := But.ofGrownK hg
  replace X := X.but PB hne
  replace R := R.but PB (by omega)
  replace Kx := Kx.but PB (by omega)
  have B1 : But bm w w10 := (But.of_below B).trans PB
  clear hg PB HD hdel MP B
  have P7 := put4_but w10 w.heap.size y0 y1 y2 y3
  have RQ := R.set y0 y1 y2 y3
  have XQ := X.but P7 (by omega)
  have MQ := MP1.but P7 (by omega)
  have BQ := B1.newK P7 (Nat.le_refl _)
  obtain ⟨⟨r0, r1, r2, r3, r4⟩, r5, r6, r7, r8⟩ := R
  obtain ⟨⟨k0, k1, k2, k3, k4⟩, -, -, -, -⟩ := Kx
  clear X MP1 P7
  go_wp2_with fail
  unfold put4 at RQ XQ MQ BQ
  generalize (((w10.setCell ⟨w.heap.size, 0, none⟩ (.int .i64 y0)).setCell ⟨w.heap.size, 1, none⟩ (.int .i64 y1)).setCell ⟨w.heap.size, 2, none⟩ (.int .i64 y2)).setCell ⟨w.heap.size, 3, none⟩ (.int .i64 y3) = wq at *
  obtain ⟨⟨q0, q1, q2, q3, q4⟩, -, -, -, -⟩ := RQ
  exact bodyPost_ret (v := .agg #[.int .i64 y0, .int .i64 y1, .int .i64 y2, .int .i64 y3]) (by simp (maxDischargeDepth := 6) [results, Try.results40, go_sem, q1, q2, q3, q4]) rfl ⟨rfl, XQ, MQ, BQ⟩
def TakenLate (w : World) (bx bm n : Nat) (ep us x p : Int) (L : List KT) (e : Ending) (w' : World) : Prop := ∃ (a' : Option Addr) (c' : Nat) (F' : Int → Option KT), e = .returned (.slice a' (gon x p L).length c') ∧ w'.ownsRow w.heap.size 43 4 (.slice a' (gon x p L).length c') (gon x p L).length (krow (rowL (gon x p L)) (gon x p L).length) ∧ Bx3 w' bx (.int .i64 ep) (.int .i64 us) (.map (some bm)) ∧ MapK w' bm n F' ∧ FL F' (kep x p L) ∧ But bm w w'
theorem field2_run (y0 y1 y2 y3 : Int) (w : World) : (Instr.field 43 (.agg #[.int .i64 y0, .int .i64 y1, .int .i64 y2, .int .i64 y3]) 2).run Try.prog w = .ok (.int .i64 y2) w := by
  first | kernel_rfl | (simp [Instr.field, run_underlying Try.underlying43, go_sem]; done)
def atB (L : List KT) : Prop := ∀ K ∈ L, 0 ≤ K.2.2.1 ∧ K.2.2.1 ≤ 1000000000000
end Go.Proofs.Ytgfhcilhibbooaa
namespace Go.Proofs.Ytgfhcilhibbooaa
open Go.RowKit
set_option linter.unusedVariables false
theorem el_at {ep us : Int} {M : Nat → KT} {n : Nat} (h : tabB ep us M n = true) : atB (lst M n) := by
  intro K hK
  simp only [lst, List.mem_map, List.mem_range] at hK
  obtain ⟨j, hj, rfl⟩ := hK
  have h1 := tOk_el (tabB_tOk h) hj
  simp only [elB, akB, tmB, Bool.and_eq_true, decide_eq_true_eq] at h1
  exact h1.2.1.2
theorem tmB_in {x : Int} (h : tmB x = true) : 0 ≤ x ∧ x ≤ 1000000000000 := of_decide_eq_true h
theorem Bx3.belB7 {w w' : World} {B j : Nat} {u0 u1 u2 : Value} (h : Bx3 w j u0 u1 u2) (hb : Below B w w') (hj : j < B) : Bx3 w' j u0 u1 u2 := by
  obtain ⟨h0, h1, h2, h3, h4, h5, h6⟩ := h
  exact ⟨Nat.lt_of_lt_of_le h0 hb.size, by rw [hb.cell (p := ⟨j, 0, none⟩) hj]; exact h1, by rw [hb.cell (p := ⟨j, 1, none⟩) hj]; exact h2, by rw [hb.cell (p := ⟨j, 2, none⟩) hj]; exact h3, by rw [hb.frozen (p := ⟨j, 0, none⟩) hj]; exact h4, by rw [hb.frozen (p := ⟨j, 1, none⟩) hj]; exact h5, by rw [hb.frozen (p := ⟨j, 2, none⟩) hj]; exact h6⟩
theorem nil_disj (n c : Nat) (a : Option Addr) : ∀ g, (Value.slice none 0 0).ownBlock = some g → (Value.slice a n c).ownBlock ≠ some g := fun g h => by simp [Value.ownBlock] at h
end Go.Proofs.Ytgfhcilhibbooaa
