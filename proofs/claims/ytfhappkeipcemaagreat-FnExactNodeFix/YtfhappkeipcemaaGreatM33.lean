/- A copy of a table (the specification). -/
import Derived.Test.YtfhappkeipcemaaGreatRows
import Derived.WalkKit
import Derived.WalkSpells
import Derived.WalkLawsBesides
import Derived.Deep.QuietTactic
import Derived.BigQuiet
import Derived.Deep.OwnRows
import Derived.Deep.RegionHeld
import Derived.Laws.BytesArg
import Derived.Deep.RegionHeld3
import Derived.Deep.DeepCutAuto
import Derived.Deep.DeepAppendRoom
import Derived.Laws.OwnMore
import Derived.Test.YtfhappkeipcemaaGreatM0
import Derived.Test.YtfhappkeipcemaaGreatM1
import Derived.Test.YtfhappkeipcemaaGreatM2
import Derived.Test.YtfhappkeipcemaaGreatM3
import Derived.Test.YtfhappkeipcemaaGreatM4
import Derived.Test.YtfhappkeipcemaaGreatM5
import Derived.Test.YtfhappkeipcemaaGreatM6
import Derived.Test.YtfhappkeipcemaaGreatM11
import Derived.Test.YtfhappkeipcemaaGreatM23
namespace Go.Proofs.YtfhappkeipcemaaGreat
open Go.RowKit
set_option linter.unusedVariables false
theorem Bx3.but {w w' : World} {j q : Nat} {u0 u1 u2 : Value} (h : Bx3 w j u0 u1 u2) (hb : But q w w') (hq : j ≠ q) : Bx3 w' j u0 u1 u2 := by
  obtain ⟨h0, h1, h2, h3, h4, h5, h6⟩ := h
  exact ⟨Nat.lt_of_lt_of_le h0 hb.2.2.2.1, by rw [hb.cell h0 hq]; exact h1, by rw [hb.cell h0 hq]; exact h2, by rw [hb.cell h0 hq]; exact h3, by rw [hb.frozen h0 hq]; exact h4, by rw [hb.frozen h0 hq]; exact h5, by rw [hb.frozen h0 hq]; exact h6⟩
theorem put3_butK (w : World) (j : Nat) (a0 a1 a2 : Value) : But j w (((w.setCell ⟨j, 0, none⟩ a0).setCell ⟨j, 1, none⟩ a1).setCell ⟨j, 2, none⟩ a2) := (((But.refl j w).setCell 0 a0).setCell 1 a1).setCell 2 a2
def krow (G : Nat → KT) (m : Nat) : List Value := (List.range (m * 4)).map (MFAsk G)
theorem krow_len (G : Nat → KT) (m : Nat) : (krow G m).length = m * 4 := by simp [krow]
theorem krow_one (G : Nat → KT) (m : Nat) : ∀ v ∈ krow G m, v.oneCell' = true := by
  intro v hv
  simp only [krow, List.mem_map] at hv
  obtain ⟨j, _, rfl⟩ := hv
  unfold MFAsk MCAsk
  split <;> rfl
theorem krow_get {G : Nat → KT} {m k : Nat} {v : Value} (h : (krow G m)[k]? = some v) : k < m * 4 ∧ v = MFAsk G k := by
  have hk : k < (krow G m).length := (List.getElem?_eq_some_iff.1 h).1
  rw [krow_len] at hk
  refine ⟨hk, ?_⟩
  simp [krow, hk] at h
  exact h.symm
theorem infoK_parts : ∃ i, Tryz.prog.info? 142 = some i ∧ i.zero = some (.agg #[.int .i64 0, .int .i64 0, .int .i64 0, .int .i64 0]) ∧ i.size = 4 ∧ i.bytes = 32 := by
  obtain ⟨i, hi, hz⟩ := Option.map_eq_some_iff.1 infoAsk
  simp only [Prod.mk.injEq] at hz
  exact ⟨i, hi, hz.1, hz.2.1, hz.2.2⟩
theorem ownK_le {w : World} {base base' : Nat} {e : TypeId} {size : Nat} {v : Value} {n : Nat} {xs : List Value} (h : w.ownsRow base e size v n xs) (hb : base' ≤ base) : w.ownsRow base' e size v n xs := by
  refine ⟨h.1, ?_⟩
  rcases h.2 with h | ⟨g, cap, cur, h1, h2, h3, h4⟩
  · exact .inl h
  · exact .inr ⟨g, cap, cur, h1, Nat.le_trans hb h2, h3, h4⟩
def FromAd (w : World) (ad : Addr) (M : Nat → KT) (n : Nat) : Prop := ∀ j u, (krow M n)[j]? = some u → w.cell? (ad.add j) = some u
theorem Froms.at {w : World} {ad : Addr} {M : Nat → KT} {n : Nat} (h : Froms w ad M n) : FromAd w ad M n := by
  intro j u hu
  obtain ⟨hj, rfl⟩ := krow_get hu
  rcases h with h | ⟨hs, h⟩
  · omega
  · have q := h.2 j hj
    obtain ⟨b, off, s⟩ := ad
    simp only at hs q
    subst hs
    unfold Addr.add
    split
    · next e => subst e; exact q
    · exact q
theorem wp_append_opt {P : Program} {w : World} {o : Oper} {a : Act} {K : Act → World → Prop} {Q : Exit → Act → World → Prop} (s x : Operand) (t : TypeId)
    (ho : o.op = .call { callee := .builtin .append, args := #[s, x], argTypes := #[t, t] })
    (base : Nat) (e : TypeId) (i : TypeInfo) (z : Value) (size bytes : Nat) (ht : P.underlying t = some (.slice e)) (hi : P.info? e = some i) (hz : i.zero = some z)
    (hsize : i.size = size) (hby : i.bytes = bytes) (hzs : z.cells.size = size) (hsz : 0 < size)
    (v : Value) (n : Nat) (xs : List Value) (hs : a.eval s = v) (hown : w.ownsRow base e size v n xs)
    (A : Option Addr) (m c : Nat) (news : List Value) (hx : a.eval x = .slice A m c) (hsrc : (A = none ∧ m = 0 ∧ c = 0) ∨ ∃ ad, A = some ad ∧ ∀ j u, news[j]? = some u → w.cell? (ad.add j) = some u) (hl : news.length = m * size) (h1 : ∀ u ∈ news, u.oneCell' = true)
    (h63 : n + m ≤ maxLen) (hbytes : (n + m) * bytes ≤ 140737488355328) (hbase : base ≤ w.heap.size)
    (h : ∀ v' w', w'.ownsRow base e size v' (n + m) (xs ++ news) → w.grownBy w' v.ownBlock → K (a.put o.dst v') w') : o.wp P a w K Q := by
  rcases hsrc with ⟨rfl, rfl, rfl⟩ | ⟨ad, rfl, hnews⟩
  · have hr := run_append_owned_none (P := P) (w := w) base t o.type e i size ht hi v n xs hown
    have hn0 : news = [] := List.eq_nil_of_length_eq_zero (by rw [hl]; simp)
    subst hn0
    unfold Oper.wp execOp
    simp only [ho, resolve, invoke, builtin, Sem.run_bind, Sem.run_pure, Result.andThen_ok, List.map_toArray, List.map_cons, List.map_nil, hs, hx, hr]
    exact h v w (by rw [List.append_nil]; exact hown) ⟨rfl, rfl, rfl, Nat.le_refl _, fun _ _ _ => rfl⟩
  · exact wp_append_own w s x t ho base e i z size bytes ht hi hz hsize hby hzs hsz v n xs hs hown ad m c news hx hl hnews h1 h63 hbytes hbase (fun v' w' p1 p2 _ => h v' w' p1 p2)
theorem FromsO.at {w : World} {A : Option Addr} {M : Nat → KT} {n c : Nat} (h : FromsO w A M n c) : (A = none ∧ n = 0 ∧ c = 0) ∨ ∃ ad, A = some ad ∧ FromAd w ad M n := by
  rcases h with h | ⟨ad, e, h⟩
  · exact .inl h
  · exact .inr ⟨ad, e, h.at⟩
set_option maxRecDepth 100000 in
set_option maxHeartbeats 4000000 in
theorem l7Copy_opt (ep us : Int) (A : Option Addr) (n c : Nat) (M : Nat → KT) (w : World) (hn : n ≤ 1000) (hf : FromsO w A M n c) :
    Calls Tryz.prog 121 #[.agg #[.int .i64 ep, .int .i64 us, .slice A n c]] w fun e w' => ∃ a' c', e = .returned (.agg #[.int .i64 ep, .int .i64 us, .slice a' n c']) ∧ w'.ownsRow w.heap.size 142 4 (.slice a' n c') n (krow M n) ∧ Below w.heap.size w w' := by
  obtain ⟨i0, hi, hz0, hz1, hz2⟩ := infoK_parts
  have N := (IB3.new w ep us A n c 61).below (Below.nw _ (.cells #[.int .i64 0, .int .i64 0, .slice none 0 0] 61))
  have R := Bx3.new (w.alloc (.cells #[.int .i64 ep, .int .i64 us, .slice A n c] 61)) (.int .i64 0) (.int .i64 0) (.slice none 0 0) 61
  have A1 := Below.nw w (.cells #[.int .i64 ep, .int .i64 us, .slice A n c] 61)
  have B := A1.alloc A1.size (.cells #[.int .i64 0, .int .i64 0, .slice none 0 0] 61)
  have CS := (hf.below A1).below (Below.nw _ (.cells #[.int .i64 0, .int .i64 0, .slice none 0 0] 61))
  simp only [World.size_alloc] at R
  clear hf A1
  go_enter Tryz.func121, Tryz.ntmps121
  go_wp2_with fail
  generalize (w.alloc (.cells #[.int .i64 ep, .int .i64 us, .slice A n c] 61)).alloc (.cells #[.int .i64 0, .int .i64 0, .slice none 0 0] 61) = v at *
  obtain ⟨n0, n1, n2, n3⟩ := id N
  obtain ⟨r0, r1, r2, r3, r4, r5, r6⟩ := id R
  refine wp_region_held_drew (S := (fun w' => w'.cell? ⟨w.heap.size, 0, none⟩ = some (.int .i64 ep) ∧ w'.cell? ⟨w.heap.size, 1, none⟩ = some (.int .i64 us) ∧ w'.cell? ⟨w.heap.size, 2, none⟩ = some (.slice A n c))) (by kernel_rfl) ?_ (fun hHeld => ?_)
  · first | exact ⟨n1, n2, n3⟩ | (simp (maxDischargeDepth := 6) [go_sem, *]; done)
  clear n0 n1 n2 n3 r0 r1 r2 r3 r4 r5 r6
  replace N := N.drew
  replace R := R.drew
  replace B := Below.drew B
  replace CS : FromsO v.drew A M n c := CS
  generalize v.drew = v at *
  (obtain ⟨n0, n1, n2, n3⟩ := id N); (obtain ⟨r0, r1, r2, r3, r4, r5, r6⟩ := id R)
  refine zTk 0 ?_ ?_ ?_
  rotate_left
  · (intro w hSw; (try dsimp only at hSw); go_simp; all_goals with_reducible rfl)
  (try simp only [Act.put, zSb, zS0, zS1])
  refine zTk 1 ?_ ?_ ?_
  rotate_left
  · (intro w hSw; (try dsimp only at hSw); go_simp; all_goals with_reducible rfl)
  (try simp only [Act.put, zSb, zS0, zS1])
  refine zTk 2 ?_ ?_ ?_
  rotate_left
  · (intro w hSw; (try dsimp only at hSw); go_simp; all_goals with_reducible rfl)
  (try simp only [Act.put, zSb, zS0, zS1])
  refine zTk 3 ?_ ?_ ?_
  rotate_left
  · (intro w hSw; (try dsimp only at hSw); go_simp; all_goals with_reducible rfl)
  (try simp only [Act.put, zSb, zS0, zS1])
  refine zTk 5 ?_ ?_ ?_
  rotate_left
  · (intro w hSw; (try dsimp only at hSw); go_simp; all_goals with_reducible rfl)
  (try simp only [Act.put, zSb, zS0, zS1])
  refine zTk 6 ?_ ?_ ?_
  rotate_left
  · (intro w hSw; (try dsimp only at hSw); go_simp; all_goals with_reducible rfl)
  (try simp only [Act.put, zSb, zS0, zS1])
  refine wpAnyH_ready (rs := [4]) (by kernel_rfl) (by simp) ?_
  refine (AllReadyH.cons (by rw [List.getElem?_toArray]; rfl) (fun K hK => ?_) AllReadyH.nil)
  go_simp
  (have hvz : w.heap.size + 2 ≤ v.heap.size := r0); (have O := World.ownsRow_made (base := w.heap.size + 2) (size := 4) (e := 142) v #[] 0 hvz (by simp [maxLen]) (by simp)); (have A := Below.nw v (.cells #[] 142)); clear n0 n1 n2 n3 r0 r1 r2 r3 r4 r5 r6; (replace N := N.below A); (replace R := R.below A); (replace CS := CS.below A); (replace B := B.trans (A.mono B.size)); (have hsz : w.heap.size + 2 ≤ (v.alloc (.cells #[] 142)).heap.size := Nat.le_trans hvz A.size); clear A; (generalize v.alloc (.cells #[] 142) = v2 at *); (obtain ⟨n0, n1, n2, n3⟩ := id N); (obtain ⟨r0, r1, r2, r3, r4, r5, r6⟩ := id R)
  refine hK.out _ _ ?_ (fun hHeld => ?_)
  · first | exact ⟨n1, n2, n3⟩ | (simp (maxDischargeDepth := 6) [go_sem, *]; done)
  clear hK K
  (try simp only [Act.put, zSb, zS0, zS1])
  refine wpAnyH_ready (rs := [7]) (by kernel_rfl) (by simp) ?_
  refine (AllReadyH.cons (by rw [List.getElem?_toArray]; rfl) (fun K hK => ?_) AllReadyH.nil)
  rw [if_pos (by rfl)]; (have HN : Hid ((A = none ∧ n = 0 ∧ c = 0) ∨ ∃ ad, A = some ad ∧ FromAd v2 ad M n) := CS.at); refine wp_append_opt _ _ 59 rfl (w.heap.size + 2) 142 i0 (.agg #[.int .i64 0, .int .i64 0, .int .i64 0, .int .i64 0]) 4 32 Tryz.underlying59 hi hz0 hz1 hz2 rfl (by decide) _ _ _ rfl O A n c (krow M n) rfl HN.out (krow_len M n) (krow_one M n) (by unfold maxLen; omega) (by omega) hsz ?_; intro v' wn hown' hgrow; (have Bg := But.ofGrownK hgrow); clear n0 n1 n2 n3 r0 r1 r2 r3 r4 r5 r6; (replace N := N.but Bg (Nat.ne_of_lt (Nat.lt_of_lt_of_le (by omega) hvz))); (replace R := R.but Bg (Nat.ne_of_lt (Nat.lt_of_lt_of_le (by omega) hvz))); (replace B := B.trans (Bg.below (Nat.le_trans (by omega) hvz) B.size)); rw [Nat.zero_add, List.nil_append] at hown'; (obtain ⟨a', c', rfl, _, _, _⟩ := ownF_src hown'); clear hgrow HN Bg; (obtain ⟨n0, n1, n2, n3⟩ := id N); (obtain ⟨r0, r1, r2, r3, r4, r5, r6⟩ := id R)
  refine hK.out _ _ ?_ (fun hHeld => ?_)
  · first | exact ⟨n1, n2, n3⟩ | (simp (maxDischargeDepth := 6) [go_sem, *]; done)
  clear hK K
  (try simp only [Act.put, zSb, zS0, zS1])
  refine zTk 8 ?_ ?_ ?_
  rotate_left
  · (intro w hSw; (try dsimp only at hSw); go_simp; all_goals with_reducible rfl)
  (try simp only [Act.put, zSb, zS0, zS1])
  refine wpAnyH_ready (rs := [9]) (by kernel_rfl) (by simp) ?_
  refine (AllReadyH.cons (by rw [List.getElem?_toArray]; rfl) (fun K hK => ?_) AllReadyH.nil)
  go_simp
  refine hK.out _ _ ?_ (fun hHeld => ?_)
  · first | exact ⟨n1, n2, n3⟩ | (simp (maxDischargeDepth := 6) [go_sem, *]; done)
  clear hK K
  (try simp only [Act.put, zSb, zS0, zS1])
  refine wpAnyH_done (by kernel_rfl) ?_ _
  go_wp2_with fail
  have PB := put3_butK wn (w.heap.size + 1) (.int .i64 ep) (.int .i64 us) (.slice a' n c')
  exact bodyPost_ret (v := .agg #[.int .i64 ep, .int .i64 us, .slice a' n c']) (by simp (maxDischargeDepth := 6) [results, Tryz.results121, go_sem, *]) rfl ⟨a', c', rfl, ownK_le (own_butK hown' PB (by omega)) (by omega), B.trans (PB.below (by omega) B.size)⟩
end Go.Proofs.YtfhappkeipcemaaGreat
