/- Contracts of spec.l7Copy and spec.l7Put. -/
import Derived.Test.YtlaladalnbdhpaaB9
import Derived.Deep.RegionHeld3
import Derived.Deep.DeepCutAuto
import Derived.WalkKit
import Derived.WalkSpells
import Derived.WalkLawsBesides
import Derived.Deep.RegionHeld
namespace Go.Proofs.Ytlaladalnbdhpaa
open Go.RowKit
set_option linter.unusedVariables false
theorem froz_grown {w w' : World} {o : Option Nat} {b i : Nat} (hg : w.grownBy w' o) (hb : b < w.heap.size) (hne : some b ≠ o) : w'.frozen? ⟨b, i, none⟩ = w.frozen? ⟨b, i, none⟩ := by
  have := hg.block b hb hne
  simp only [World.frozen?]
  rw [this]
theorem Bx3.kept3 {w w' : World} {o : Option Nat} {j : Nat} {u0 u1 u2 : Value} (h : Bx3 w j u0 u1 u2) (hg : w.grownBy w' o) (hne : some j ≠ o) : Bx3 w' j u0 u1 u2 := by
  obtain ⟨h0, h1, h2, h3, h4, h5, h6⟩ := h
  exact ⟨Nat.lt_of_lt_of_le h0 hg.size, by rw [cell_grown hg h0 hne]; exact h1, by rw [cell_grown hg h0 hne]; exact h2, by rw [cell_grown hg h0 hne]; exact h3, by rw [froz_grown hg h0 hne]; exact h4, by rw [froz_grown hg h0 hne]; exact h5, by rw [froz_grown hg h0 hne]; exact h6⟩
theorem Bf4.kept {w w' : World} {o : Option Nat} {j : Nat} {x0 x1 x2 x3 : Int} (h : Bf4 w j x0 x1 x2 x3) (hg : w.grownBy w' o) (hne : some j ≠ o) : Bf4 w' j x0 x1 x2 x3 :=
  ⟨h.1.kept hg hne, by rw [froz_grown hg h.1.1 hne]; exact h.2.1, by rw [froz_grown hg h.1.1 hne]; exact h.2.2.1, by rw [froz_grown hg h.1.1 hne]; exact h.2.2.2.1, by rw [froz_grown hg h.1.1 hne]; exact h.2.2.2.2⟩
theorem own_cells3 {w : World} {base j n c : Nat} {a : Option Addr} {G : Nat → KT} {e u : Int} {u2 : Value} (h : w.ownsRow base 34 4 (.slice a (n + 1) c) (n + 1) (krow G (n + 1))) (hb : Bx3 w j (.int .i64 e) (.int .i64 u) u2) (h2 : ∀ k q, u2 ≠ .int k q) : ∀ g, (Value.slice a (n + 1) c).ownBlock = some g → g ≠ j := by
  intro g hg ej
  subst ej
  obtain ⟨a2, c2, e2, _, _, S⟩ := ownF_src h
  injection e2 with e2 e3 e4
  subst e2 e4
  rcases S with S | ⟨b, off, ha, hc⟩
  · omega
  · have := own_at h ha
    rw [hg] at this
    injection this with this
    subst this
    have hoff : off = 0 := by
      rcases h.2 with ⟨he, _⟩ | ⟨g', cap, cur, he, _⟩
      · simp at he
      · simp at he; rw [he.1] at ha; simp at ha; exact ha.2.symm
    subst hoff
    have q := hc.2 2 (by omega)
    rw [Nat.zero_add, hb.2.2.2.1] at q
    obtain ⟨x0, x1, x2, x3, hG⟩ := tupAsk G 0
    have v := (MFAsk_vals hG).2.2.1
    simp only [Nat.zero_mul, Nat.zero_add] at v
    rw [v] at q
    injection q with q
    exact h2 _ _ q
/- What an append may read: the cells from an address on. -/
def FromAd (w : World) (ad : Addr) (M : Nat → KT) (n : Nat) : Prop := ∀ j u, (krow M n)[j]? = some u → w.cell? (ad.add j) = some u
def Froms (w : World) (ad : Addr) (M : Nat → KT) (n : Nat) : Prop := n = 0 ∨ (ad.spot = none ∧ Cs w ad.block ad.off (n * 4) (MFAsk M))
theorem Froms.at {w : World} {ad : Addr} {M : Nat → KT} {n : Nat} (h : Froms w ad M n) : FromAd w ad M n := by
  intro j u hu
  obtain ⟨hj, rfl⟩ := krow_get hu
  rcases h with h | ⟨hs, h⟩
  · omega
  · have q := h.2 j hj
    obtain ⟨b, off, s⟩ := ad
    simp only at hs q
    subst hs
    unfold Addr.add
    split
    · next e => subst e; exact q
    · exact q
theorem Froms.below {w w' : World} {ad : Addr} {M : Nat → KT} {n : Nat} (h : Froms w ad M n) (hb : Below w.heap.size w w') : Froms w' ad M n := by
  rcases h with h | ⟨hs, h⟩
  · exact .inl h
  · exact .inr ⟨hs, h.below hb h.1⟩
theorem Froms.src {w : World} {ad : Addr} {M : Nat → KT} {n : Nat} (h : Froms w ad M n) : SrcC w (some ad) (n * 4) (MFAsk M) := by
  rcases h with h | ⟨hs, h⟩
  · exact .inl (by omega)
  · obtain ⟨b, off, s⟩ := ad
    simp only at hs h
    subst hs
    exact .inr ⟨b, off, rfl, h⟩
theorem Froms.of {w : World} {b n : Nat} {M : Nat → KT} (h : Cs w b 0 (n * 4) (MFAsk M)) : Froms w ⟨b, 0, none⟩ M n := .inr ⟨rfl, h⟩
set_option maxRecDepth 100000 in
set_option maxHeartbeats 4000000 in
theorem l7Copy_any (ep us : Int) (ad : Addr) (n c : Nat) (M : Nat → KT) (w : World) (hn : n ≤ 1000) (hf : Froms w ad M n) :
    Calls Try.prog 18 #[.agg #[.int .i64 ep, .int .i64 us, .slice (some ad) n c]] w fun e w' => ∃ a' c', e = .returned (.agg #[.int .i64 ep, .int .i64 us, .slice a' n c']) ∧ w'.ownsRow w.heap.size 34 4 (.slice a' n c') n (krow M n) ∧ Below w.heap.size w w' := by
  obtain ⟨i0, hi, hz0, hz1, hz2⟩ := infoK_parts
  have N := (IB3.new w ep us (some ad) n c 26).below (Below.nw _ (.cells #[.int .i64 0, .int .i64 0, .slice none 0 0] 26))
  have R := Bx3.new (w.alloc (.cells #[.int .i64 ep, .int .i64 us, .slice (some ad) n c] 26)) (.int .i64 0) (.int .i64 0) (.slice none 0 0) 26
  have A1 := Below.nw w (.cells #[.int .i64 ep, .int .i64 us, .slice (some ad) n c] 26)
  have B := A1.alloc A1.size (.cells #[.int .i64 0, .int .i64 0, .slice none 0 0] 26)
  have CS := (hf.below A1).below (Below.nw _ (.cells #[.int .i64 0, .int .i64 0, .slice none 0 0] 26))
  simp only [World.size_alloc] at R
  clear hf A1
  go_enter Try.func18, Try.ntmps18
  go_wp2_with fail
  generalize (w.alloc (.cells #[.int .i64 ep, .int .i64 us, .slice (some ad) n c] 26)).alloc (.cells #[.int .i64 0, .int .i64 0, .slice none 0 0] 26) = v at *
  obtain ⟨n0, n1, n2, n3⟩ := id N
  obtain ⟨r0, r1, r2, r3, r4, r5, r6⟩ := id R
  refine wp_region_held_drew (S := (fun w' => w'.cell? ⟨w.heap.size, 0, none⟩ = some (.int .i64 ep) ∧ w'.cell? ⟨w.heap.size, 1, none⟩ = some (.int .i64 us) ∧ w'.cell? ⟨w.heap.size, 2, none⟩ = some (.slice (some ad) n c))) (by kernel_rfl) ?_ (fun hHeld => ?_)
  · first | exact ⟨n1, n2, n3⟩ | (simp (maxDischargeDepth := 6) [go_sem, *]; done)
  clear n0 n1 n2 n3 r0 r1 r2 r3 r4 r5 r6
  replace N := N.drew
  replace R := R.drew
  replace B := Below.drew B
  replace CS : Froms v.drew ad M n := CS
  generalize v.drew = v at *
  (obtain ⟨n0, n1, n2, n3⟩ := id N); (obtain ⟨r0, r1, r2, r3, r4, r5, r6⟩ := id R)
  refine wpAnyH_take (i := 0) (v := ?_) (by rw [List.getElem?_toArray]; rfl) (by kernel_rfl) (by kernel_rfl) (by kernel_rfl) (by intro _ _ _ h; exact h) (Or.inl ⟨by rfl, ?_⟩) (by assumption) ?_
  rotate_left
  · (intro w hSw; (try dsimp only at hSw); go_simp; all_goals with_reducible rfl)
  (try simp only [Act.put, List.setIfInBounds_toArray, List.set_cons_zero, List.set_cons_succ])
  refine wpAnyH_take (i := 1) (v := ?_) (by rw [List.getElem?_toArray]; rfl) (by kernel_rfl) (by kernel_rfl) (by kernel_rfl) (by intro _ _ _ h; exact h) (Or.inl ⟨by rfl, ?_⟩) (by assumption) ?_
  rotate_left
  · (intro w hSw; (try dsimp only at hSw); go_simp; all_goals with_reducible rfl)
  (try simp only [Act.put, List.setIfInBounds_toArray, List.set_cons_zero, List.set_cons_succ])
  refine wpAnyH_take (i := 2) (v := ?_) (by rw [List.getElem?_toArray]; rfl) (by kernel_rfl) (by kernel_rfl) (by kernel_rfl) (by intro _ _ _ h; exact h) (Or.inl ⟨by rfl, ?_⟩) (by assumption) ?_
  rotate_left
  · (intro w hSw; (try dsimp only at hSw); go_simp; all_goals with_reducible rfl)
  (try simp only [Act.put, List.setIfInBounds_toArray, List.set_cons_zero, List.set_cons_succ])
  refine wpAnyH_take (i := 3) (v := ?_) (by rw [List.getElem?_toArray]; rfl) (by kernel_rfl) (by kernel_rfl) (by kernel_rfl) (by intro _ _ _ h; exact h) (Or.inl ⟨by rfl, ?_⟩) (by assumption) ?_
  rotate_left
  · (intro w hSw; (try dsimp only at hSw); go_simp; all_goals with_reducible rfl)
  (try simp only [Act.put, List.setIfInBounds_toArray, List.set_cons_zero, List.set_cons_succ])
  refine wpAnyH_take (i := 5) (v := ?_) (by rw [List.getElem?_toArray]; rfl) (by kernel_rfl) (by kernel_rfl) (by kernel_rfl) (by intro _ _ _ h; exact h) (Or.inl ⟨by rfl, ?_⟩) (by assumption) ?_
  rotate_left
  · (intro w hSw; (try dsimp only at hSw); go_simp; all_goals with_reducible rfl)
  (try simp only [Act.put, List.setIfInBounds_toArray, List.set_cons_zero, List.set_cons_succ])
  refine wpAnyH_take (i := 6) (v := ?_) (by rw [List.getElem?_toArray]; rfl) (by kernel_rfl) (by kernel_rfl) (by kernel_rfl) (by intro _ _ _ h; exact h) (Or.inl ⟨by rfl, ?_⟩) (by assumption) ?_
  rotate_left
  · (intro w hSw; (try dsimp only at hSw); go_simp; all_goals with_reducible rfl)
  (try simp only [Act.put, List.setIfInBounds_toArray, List.set_cons_zero, List.set_cons_succ])
  refine wpAnyH_ready (rs := [4]) (by kernel_rfl) (by simp) ?_
  refine (AllReadyH.cons (by rw [List.getElem?_toArray]; rfl) (fun K hK => ?_) AllReadyH.nil)
  go_simp
  (have hvz : w.heap.size + 2 ≤ v.heap.size := r0); (have O := World.ownsRow_made (base := w.heap.size + 2) (size := 4) (e := 34) v #[] 0 hvz (by simp [maxLen]) (by simp)); (have A := Below.nw v (.cells #[] 34)); clear n0 n1 n2 n3 r0 r1 r2 r3 r4 r5 r6; (replace N := N.below A); (replace R := R.below A); (replace CS := CS.below A); (replace B := B.trans (A.mono B.size)); (have hsz : w.heap.size + 2 ≤ (v.alloc (.cells #[] 34)).heap.size := Nat.le_trans hvz A.size); clear A; (generalize v.alloc (.cells #[] 34) = v2 at *); (obtain ⟨n0, n1, n2, n3⟩ := id N); (obtain ⟨r0, r1, r2, r3, r4, r5, r6⟩ := id R)
  refine hK.out _ _ ?_ (fun hHeld => ?_)
  · first | exact ⟨n1, n2, n3⟩ | (simp (maxDischargeDepth := 6) [go_sem, *]; done)
  clear hK K
  (try simp only [Act.put, List.setIfInBounds_toArray, List.set_cons_zero, List.set_cons_succ])
  refine wpAnyH_ready (rs := [7]) (by kernel_rfl) (by simp) ?_
  refine (AllReadyH.cons (by rw [List.getElem?_toArray]; rfl) (fun K hK => ?_) AllReadyH.nil)
  rw [if_pos (by rfl)]; (have HN : Hid (FromAd v2 ad M n) := CS.at); refine wp_append_own _ _ _ 24 rfl (w.heap.size + 2) 34 i0 (.agg #[.int .i64 0, .int .i64 0, .int .i64 0, .int .i64 0]) 4 32 Try.underlying24 hi hz0 hz1 hz2 rfl (by decide) _ _ _ rfl O ad n c (krow M n) rfl (krow_len M n) HN.out (krow_one M n) (by unfold maxLen; omega) (by omega) hsz ?_; intro v' wn hown' hgrow _; (have Bg := But.ofGrownK hgrow); clear n0 n1 n2 n3 r0 r1 r2 r3 r4 r5 r6; (replace N := N.but Bg (Nat.ne_of_lt (Nat.lt_of_lt_of_le (by omega) hvz))); (replace R := R.but Bg (Nat.ne_of_lt (Nat.lt_of_lt_of_le (by omega) hvz))); (replace B := B.trans (Bg.below (Nat.le_trans (by omega) hvz) B.size)); rw [Nat.zero_add, List.nil_append] at hown'; (obtain ⟨a', c', rfl, _, _, _⟩ := ownF_src hown'); clear hgrow HN Bg; (obtain ⟨n0, n1, n2, n3⟩ := id N); (obtain ⟨r0, r1, r2, r3, r4, r5, r6⟩ := id R)
  refine hK.out _ _ ?_ (fun hHeld => ?_)
  · first | exact ⟨n1, n2, n3⟩ | (simp (maxDischargeDepth := 6) [go_sem, *]; done)
  clear hK K
  (try simp only [Act.put, List.setIfInBounds_toArray, List.set_cons_zero, List.set_cons_succ])
  refine wpAnyH_take (i := 8) (v := ?_) (by rw [List.getElem?_toArray]; rfl) (by kernel_rfl) (by kernel_rfl) (by kernel_rfl) (by intro _ _ _ h; exact h) (Or.inl ⟨by rfl, ?_⟩) (by assumption) ?_
  rotate_left
  · (intro w hSw; (try dsimp only at hSw); go_simp; all_goals with_reducible rfl)
  (try simp only [Act.put, List.setIfInBounds_toArray, List.set_cons_zero, List.set_cons_succ])
  refine wpAnyH_ready (rs := [9]) (by kernel_rfl) (by simp) ?_
  refine (AllReadyH.cons (by rw [List.getElem?_toArray]; rfl) (fun K hK => ?_) AllReadyH.nil)
  go_simp
  refine hK.out _ _ ?_ (fun hHeld => ?_)
  · first | exact ⟨n1, n2, n3⟩ | (simp (maxDischargeDepth := 6) [go_sem, *]; done)
  clear hK K
  (try simp only [Act.put, List.setIfInBounds_toArray, List.set_cons_zero, List.set_cons_succ])
  refine wpAnyH_done (by kernel_rfl) ?_ _
  go_wp2_with fail
  have PB := put3_butK wn (w.heap.size + 1) (.int .i64 ep) (.int .i64 us) (.slice a' n c')
  exact bodyPost_ret (v := .agg #[.int .i64 ep, .int .i64 us, .slice a' n c']) (by simp (maxDischargeDepth := 6) [results, Try.results18, go_sem, *]) rfl ⟨a', c', rfl, ownK_le (own_butK hown' PB (by omega)) (by omega), B.trans (PB.below (by omega) B.size)⟩
set_option maxRecDepth 100000 in
set_option maxHeartbeats 8000000 in
theorem l7Put_any (ep us x y z nn : Int) (ad : Addr) (n c : Nat) (M : Nat → KT) (w : World) (hn : n ≤ 900) (hf : Froms w ad M n) (hep : 0 ≤ ep ∧ ep ≤ 100000) (hus : 0 ≤ us ∧ us ≤ 1000) (hnn : ep * 1000 + us = nn) :
    Calls Try.prog 19 #[.agg #[.int .i64 ep, .int .i64 us, .slice (some ad) n c], .int .i64 x, .int .i64 y, .int .i64 z] w fun e w' => ∃ a' c', e = .returned (.tuple #[.agg #[.int .i64 ep, .int .i64 (us + 1), .slice a' (n + 1) c'], .agg #[.int .i64 nn, .int .i64 x, .int .i64 y, .int .i64 z]]) ∧ w'.ownsRow w.heap.size 34 4 (.slice a' (n + 1) c') (n + 1) (krow (addG M n (kT nn x y z)) (n + 1)) ∧ Below w.heap.size w w' := by
  obtain ⟨i0, hi, hz0, hz1, hz2⟩ := infoK_parts
  have w1 : IntKind.i64.wrap (ep * 1000) = ep * 1000 := Go.IntWalk.i64_in _ ⟨by omega, by omega⟩
  have w2 : IntKind.i64.wrap (ep * 1000 + us) = nn := by rw [hnn]; exact Go.IntWalk.i64_in _ ⟨by omega, by omega⟩
  have w3 : IntKind.i64.wrap (us + 1) = us + 1 := Go.IntWalk.i64_in _ ⟨by omega, by omega⟩
  have HW : Hid (krow M n ++ [.int .i64 nn, .int .i64 x, .int .i64 y, .int .i64 z] = krow (addG M n (kT nn x y z)) (n + 1)) := by
    have e : krow M n = krow (addG M n (kT nn x y z)) n := krow_congr fun j hj => (if_neg (by omega)).symm
    rw [Hid, e]
    exact krow_add (if_pos rfl)
  have N := ((IB3.new w ep us (some ad) n c 26).below (Below.nw _ (.cells #[.int .i64 0, .int .i64 0, .slice none 0 0] 26))).below (Below.nw _ (.cells #[.int .i64 0, .int .i64 0, .int .i64 0, .int .i64 0] 34))
  have R := (Bx3.new (w.alloc (.cells #[.int .i64 ep, .int .i64 us, .slice (some ad) n c] 26)) (.int .i64 0) (.int .i64 0) (.slice none 0 0) 26).below (Below.nw _ (.cells #[.int .i64 0, .int .i64 0, .int .i64 0, .int .i64 0] 34))
  have R2 := Bf4.new ((w.alloc (.cells #[.int .i64 ep, .int .i64 us, .slice (some ad) n c] 26)).alloc (.cells #[.int .i64 0, .int .i64 0, .slice none 0 0] 26)) 0 0 0 0 34
  have A1 := Below.nw w (.cells #[.int .i64 ep, .int .i64 us, .slice (some ad) n c] 26)
  have A2 := A1.alloc A1.size (.cells #[.int .i64 0, .int .i64 0, .slice none 0 0] 26)
  have B := A2.alloc A2.size (.cells #[.int .i64 0, .int .i64 0, .int .i64 0, .int .i64 0] 34)
  have CS := ((hf.below A1).below (Below.nw _ (.cells #[.int .i64 0, .int .i64 0, .slice none 0 0] 26))).below (Below.nw _ (.cells #[.int .i64 0, .int .i64 0, .int .i64 0, .int .i64 0] 34))
  simp only [World.size_alloc] at R R2
  clear hf A1 A2 hep hus hnn
  go_enter Try.func19, Try.ntmps19
  go_upto_region 1 with fail
  generalize ((w.alloc (.cells #[.int .i64 ep, .int .i64 us, .slice (some ad) n c] 26)).alloc (.cells #[.int .i64 0, .int .i64 0, .slice none 0 0] 26)).alloc (.cells #[.int .i64 0, .int .i64 0, .int .i64 0, .int .i64 0] 34) = v at *
  have A3 := Below.nw v (.cells #[.int .i64 nn, .int .i64 x, .int .i64 y, .int .i64 z] 34)
  have Kx := Bf4.new v nn x y z 34
  have hJv : w.heap.size + 1 + 1 < v.heap.size := R2.1.1
  obtain ⟨n0, n1, n2, n3⟩ := id N
  go_upto_region 2 with fail
  clear n0 n1 n2 n3 w1 w2
  replace N := N.below A3
  replace R := R.below A3
  replace R2 := R2.below A3
  replace CS := CS.below A3
  replace B := B.trans (A3.mono B.size)
  clear A3
  generalize hbk : v.heap.size = bk at *
  generalize v.alloc (.cells #[.int .i64 nn, .int .i64 x, .int .i64 y, .int .i64 z] 34) = v1 at *
  obtain ⟨n0, n1, n2, n3⟩ := id N
  go_wp2_with fail
  have hkv : bk < v1.heap.size := Kx.1.1
  refine (l7Copy_any ep us ad n c M v1 (by omega) CS).mono ?_
  rintro e v2 ⟨a1, c1, rfl, O, hb⟩
  clear n0 n1 n2 n3 N CS
  replace R := R.below hb
  replace R2 := R2.below hb
  replace Kx := Kx.below hb
  replace B := B.trans (hb.mono B.size)
  have hv12 := hb.size
  clear hb
  have A4 := Below.nw v2 (.cells #[.int .i64 ep, .int .i64 us, .slice a1 n c1] 26)
  have Ox := Bx3.new v2 (.int .i64 ep) (.int .i64 us) (.slice a1 n c1) 26
  have OL : ∀ g, (Value.slice a1 n c1).ownBlock = some g → v1.heap.size ≤ g ∧ g < v2.heap.size := fun g hg => World.ownsRow.lt O g hg
  replace R := R.below A4
  replace R2 := R2.below A4
  replace Kx := Kx.below A4
  replace O := own_belK' O A4
  replace B := B.trans (A4.mono B.size)
  clear A4
  go_upto_region 3 with fail
  generalize hbo : v2.heap.size = bo at *
  generalize v2.alloc (.cells #[.int .i64 ep, .int .i64 us, .slice a1 n c1] 26) = v3 at *
  obtain ⟨o0, o1, o2, o3, o4, o5, o6⟩ := id Ox
  obtain ⟨⟨k0, k1, k2, k3, k4⟩, -, -, -, -⟩ := id Kx
  have O' := World.ownsRow.alloc O (.cells #[.int .i64 nn, .int .i64 x, .int .i64 y, .int .i64 z] 34)
  have HN : Hid (∀ j u, [Value.int .i64 nn, .int .i64 x, .int .i64 y, .int .i64 z][j]? = some u → (v3.alloc (.cells #[.int .i64 nn, .int .i64 x, .int .i64 y, .int .i64 z] 34)).cell? ((⟨v3.heap.size, 0, none⟩ : Addr).add j) = some u) := fun j u hu => four_at v3 nn x y z 34 j u hu
  go_wp2_with (at_builtin; refine wpList_append_own _ rfl _ _ 24 rfl v1.heap.size 34 i0 (.agg #[.int .i64 0, .int .i64 0, .int .i64 0, .int .i64 0]) 4 32 Try.underlying24 hi hz0 hz1 hz2 rfl (by decide) _ _ _ rfl O' ⟨v3.heap.size, 0, none⟩ 1 1 [.int .i64 nn, .int .i64 x, .int .i64 y, .int .i64 z] rfl rfl HN.out (four_one _ _ _ _) ?c3 ?c4 ?c5 ?_)
  case c3 => unfold maxLen; omega
  case c4 => omega
  case c5 => simp; omega
  intro v' wn hown' hgrow _
  rw [HW.out] at hown'
  clear k0 k1 k2 k3 k4 o0 o1 o2 o3 o4 o5 o6 HN HW
  have A5 := Below.nw v3 (.cells #[.int .i64 nn, .int .i64 x, .int .i64 y, .int .i64 z] 34)
  have hs5 := A5.size
  replace R := (R.below A5).kept3 hgrow (fun e => by have := OL _ e.symm; omega)
  replace R2 := (R2.below A5).kept hgrow (fun e => by have := OL _ e.symm; omega)
  replace Kx := (Kx.below A5).kept hgrow (fun e => by have := OL _ e.symm; omega)
  replace Ox := (Ox.below A5).kept3 hgrow (fun e => by have := OL _ e.symm; omega)
  replace B := (B.trans (A5.mono B.size)).trans (grown_bel hgrow (B.trans (A5.mono B.size)).size (fun b h e => by have := OL _ e.symm; omega))
  clear A5 O O' hgrow
  obtain ⟨a', c', rfl, _, _, _⟩ := ownF_src hown'
  -- the row lies apart from the box of the copy
  have PB := But.oneK wn bo 2 (.slice a' (n + 1) c')
  have hno : ∀ g, (Value.slice a' (n + 1) c').ownBlock = some g → g ≠ bo := own_cells3 hown' Ox (fun _ _ h => by cases h)
  replace hown' := own_neK hown' PB hno
  replace R := R.but PB (by omega)
  replace R2 := R2.but PB (by omega)
  replace Kx := Kx.but PB (by omega)
  replace B := B.trans (PB.below (B := w.heap.size) (by omega) B.size)
  have O2 := Ox.set2 (.slice a' (n + 1) c')
  obtain ⟨o0, o1, o2, o3, o4, o5, o6⟩ := Ox
  clear PB
  go_upto_region 4 with fail
  clear o0 o1 o2 o3 o4 o5 o6
  generalize wn.setCell ⟨bo, 2, none⟩ (.slice a' (n + 1) c') = v5 at *
  have PB := But.oneK v5 bo 1 (.int .i64 (us + 1))
  replace hown' := own_neK hown' PB hno
  replace R := R.but PB (by omega)
  replace R2 := R2.but PB (by omega)
  replace Kx := Kx.but PB (by omega)
  replace B := B.trans (PB.below (B := w.heap.size) (by omega) B.size)
  have O3 := O2.set1 (.int .i64 (us + 1))
  obtain ⟨o0, o1, o2, o3, o4, o5, o6⟩ := O2
  clear PB
  go_upto_region 5 with fail
  clear o0 o1 o2 o3 o4 o5 o6
  generalize v5.setCell ⟨bo, 1, none⟩ (.int .i64 (us + 1)) = v6 at *
  have P1 := put3_butK v6 (w.heap.size + 1) (.int .i64 ep) (.int .i64 (us + 1)) (.slice a' (n + 1) c')
  have RQ := R.set (.int .i64 ep) (.int .i64 (us + 1)) (.slice a' (n + 1) c')
  have P2 := put4_but ((((v6.setCell ⟨w.heap.size + 1, 0, none⟩ (.int .i64 ep)).setCell ⟨w.heap.size + 1, 1, none⟩ (.int .i64 (us + 1))).setCell ⟨w.heap.size + 1, 2, none⟩ (.slice a' (n + 1) c'))) (w.heap.size + 1 + 1) nn x y z
  have RQ2 := (R2.but P1 (by omega)).set nn x y z
  replace RQ := RQ.but P2 (by omega)
  have BQ1 := B.trans (P1.below (B := w.heap.size) (by omega) B.size)
  have BQ := BQ1.trans (P2.below (B := w.heap.size) (by omega) BQ1.size)
  have OQ := ownK_le (base' := w.heap.size) (own_butK (own_butK hown' P1 (by omega)) P2 (by omega)) (by omega)
  have KZ : Hid (World.ownsRow _ _ _ _ _ _ _ ∧ Below _ _ _) := ⟨OQ, BQ⟩
  obtain ⟨o0, o1, o2, o3, -, -, -⟩ := O3
  obtain ⟨⟨k0, k1, k2, k3, k4⟩, -, -, -, -⟩ := Kx
  obtain ⟨r0, r1, r2, r3, r4, r5, r6⟩ := R
  obtain ⟨⟨f0, f1, f2, f3, f4⟩, f5, f6, f7, f8⟩ := R2
  clear P1 P2 BQ1 BQ OQ hown' OL hno
  unfold put4 at RQ RQ2 KZ
  go_region
  clear o0 o1 o2 o3 k0 k1 k2 k3 k4 r0 r1 r2 r3 r4 r5 r6 f0 f1 f2 f3 f4 f5 f6 f7 f8 B
  generalize ((((((v6.setCell ⟨w.heap.size + 1, 0, none⟩ (.int .i64 ep)).setCell ⟨w.heap.size + 1, 1, none⟩ (.int .i64 (us + 1))).setCell ⟨w.heap.size + 1, 2, none⟩ (.slice a' (n + 1) c')).setCell ⟨w.heap.size + 1 + 1, 0, none⟩ (.int .i64 nn)).setCell ⟨w.heap.size + 1 + 1, 1, none⟩ (.int .i64 x)).setCell ⟨w.heap.size + 1 + 1, 2, none⟩ (.int .i64 y)).setCell ⟨w.heap.size + 1 + 1, 3, none⟩ (.int .i64 z) = wz at *
  obtain ⟨q0, q1, q2, q3, -, -, -⟩ := RQ
  obtain ⟨⟨g0, g1, g2, g3, g4⟩, -, -, -, -⟩ := RQ2
  go_wp2_with fail
  exact bodyPost_ret (v := .tuple #[.agg #[.int .i64 ep, .int .i64 (us + 1), .slice a' (n + 1) c'], .agg #[.int .i64 nn, .int .i64 x, .int .i64 y, .int .i64 z]]) (by simp (maxDischargeDepth := 6) [results, Try.results19, go_sem, *]) rfl ⟨a', c', rfl, World.ownsRow.drew KZ.out.1, Below.drew KZ.out.2⟩
end Go.Proofs.Ytlaladalnbdhpaa
