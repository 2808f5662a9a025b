/- Rows of flights; contracts of spec.l5Copy and spec.NetTake. -/
import Derived.Test.YtfdcjfebfbpliaaN64
import Derived.Deep.RegionHeld3
import Derived.Deep.DeepCutAuto
import Derived.WalkKit
import Derived.WalkSpells
import Derived.WalkLawsBesides
import Derived.Deep.RegionHeld
namespace Go.Proofs.Ytfdcjfebfbpliaa
open Go.RowKit
set_option linter.unusedVariables false
def frow (G : Nat → FT) (m : Nat) : List Value := (List.range (m * 5)).map (MFFlight G)
theorem frow_len (G : Nat → FT) (m : Nat) : (frow G m).length = m * 5 := by simp [frow]
theorem frow_add {G : Nat → FT} {k : Nat} {x0 x1 x2 : Int} {x3 : ByteArray} {x4 : Int} (h : G k = (x0, x1, x2, x3, x4)) : frow G k ++ [.int .i64 x0, .int .i64 x1, .int .i64 x2, .string x3, .int .i64 x4] = frow G (k + 1) := by
  obtain ⟨q0, q1, q2, q3, q4⟩ := MFFlight_vals h
  unfold frow
  rw [show (k + 1) * 5 = k * 5 + 1 + 1 + 1 + 1 + 1 by omega, List.range_succ, List.range_succ, List.range_succ, List.range_succ, List.range_succ]
  simp only [List.map_append, List.map_cons, List.map_nil, List.append_assoc, List.cons_append, List.nil_append]
  rw [q0, q1, q2, q3, q4]
theorem frow_one (G : Nat → FT) (m : Nat) : ∀ v ∈ frow G m, v.oneCell' = true := by
  intro v hv
  simp only [frow, List.mem_map] at hv
  obtain ⟨j, _, rfl⟩ := hv
  unfold MFFlight MCFlight
  split <;> rfl
theorem frow_get {G : Nat → FT} {m k : Nat} {v : Value} (h : (frow G m)[k]? = some v) : k < m * 5 ∧ v = MFFlight G k := by
  have hk : k < (frow G m).length := (List.getElem?_eq_some_iff.1 h).1
  rw [frow_len] at hk
  refine ⟨hk, ?_⟩
  simp [frow, hk] at h
  exact h.symm
theorem five_at (w : World) (x0 x1 x2 : Int) (x3 : ByteArray) (x4 : Int) (T : TypeId) (j : Nat) (u : Value) (h : [Value.int .i64 x0, .int .i64 x1, .int .i64 x2, .string x3, .int .i64 x4][j]? = some u) : (w.alloc (.cells #[.int .i64 x0, .int .i64 x1, .int .i64 x2, .string x3, .int .i64 x4] T)).cell? ((⟨w.heap.size, 0, none⟩ : Addr).add j) = some u := by
  match j, h with
  | 0, h => simp at h; subst h; simp [Addr.add]
  | 1, h => simp at h; subst h; simp [Addr.add]
  | 2, h => simp at h; subst h; simp [Addr.add]
  | 3, h => simp at h; subst h; simp [Addr.add]
  | 4, h => simp at h; subst h; simp [Addr.add]
theorem five_one (x0 x1 x2 : Int) (x3 : ByteArray) (x4 : Int) : ∀ u ∈ [Value.int .i64 x0, .int .i64 x1, .int .i64 x2, .string x3, .int .i64 x4], u.oneCell' = true := by
  intro u hu; simp at hu; rcases hu with rfl | rfl | rfl | rfl | rfl <;> rfl
theorem infoF_parts : ∃ i, Try.prog.info? 30 = some i ∧ i.zero = some (.agg #[.int .i64 0, .int .i64 0, .int .i64 0, .string ⟨#[]⟩, .int .i64 0]) ∧ i.size = 5 ∧ i.bytes = 48 := by
  obtain ⟨i, hi, hz⟩ := Option.map_eq_some_iff.1 infoFlight
  simp only [Prod.mk.injEq] at hz
  exact ⟨i, hi, hz.1, hz.2.1, hz.2.2⟩
theorem own_butF {w w' : World} {base p : Nat} {e : TypeId} {size : Nat} {v : Value} {n : Nat} {xs : List Value} (h : w.ownsRow base e size v n xs) (hb : But p w w') (hp : p < base) : w'.ownsRow base e size v n xs := by
  refine World.ownsRow.kept h hb.gr ?_
  cases hv : v.ownBlock with
  | none => exact .inl rfl
  | some k =>
    right
    intro e
    have := (World.ownsRow.lt h k hv).1
    injection e with e
    omega
theorem cells_src {w : World} {b n : Nat} {M : Nat → FT} (h : Cs w b 0 (n * 5) (MFFlight M)) : ∀ j u, (frow M n)[j]? = some u → w.cell? ((⟨b, 0, none⟩ : Addr).add j) = some u := by
  intro j u hu
  obtain ⟨hj, rfl⟩ := frow_get hu
  have h := h.2 j hj
  rw [Nat.zero_add] at h
  unfold Addr.add
  split
  · next e => subst e; exact h
  · rw [Nat.zero_add]; exact h
set_option maxRecDepth 100000 in
set_option maxHeartbeats 4000000 in
theorem l5Copy_any (nx : Int) (b n c : Nat) (M : Nat → FT) (w : World) (hn : n ≤ 40) (hf : Cs w b 0 (n * 5) (MFFlight M)) :
    Calls Try.prog 21 #[.agg #[.int .i64 nx, .slice (some ⟨b, 0, none⟩) n c]] w fun e w' => ∃ a' c', e = .returned (.agg #[.int .i64 nx, .slice a' n c']) ∧ w'.ownsRow w.heap.size 30 5 (.slice a' n c') n (frow M n) ∧ Below w.heap.size w w' := by
  obtain ⟨i0, hi, hz0, hz1, hz2⟩ := infoF_parts
  have N := (NB.new w nx (some ⟨b, 0, none⟩) n c 26).below (Below.nw _ (.cells #[.int .i64 0, .slice none 0 0] 26))
  have R := B2.new (w.alloc (.cells #[.int .i64 nx, .slice (some ⟨b, 0, none⟩) n c] 26)) (.int .i64 0) (.slice none 0 0) 26
  have A1 := Below.nw w (.cells #[.int .i64 nx, .slice (some ⟨b, 0, none⟩) n c] 26)
  have B := A1.alloc A1.size (.cells #[.int .i64 0, .slice none 0 0] 26)
  have CS := hf.below B hf.1
  have hbw := hf.1
  simp only [World.size_alloc] at R
  clear hf A1
  go_enter Try.func21, Try.ntmps21
  go_wp2_with fail
  generalize (w.alloc (.cells #[.int .i64 nx, .slice (some ⟨b, 0, none⟩) n c] 26)).alloc (.cells #[.int .i64 0, .slice none 0 0] 26) = v at *
  obtain ⟨n0, n1, n2⟩ := id N
  obtain ⟨r0, r1, r2, r3, r4⟩ := id R
  refine wp_region_held_drew (S := (fun w' => w'.cell? ⟨w.heap.size, 0, none⟩ = some (.int .i64 nx) ∧ w'.cell? ⟨w.heap.size, 1, none⟩ = some (.slice (some ⟨b, 0, none⟩) n c))) (by kernel_rfl) ?_ (fun hHeld => ?_)
  · first | exact ⟨n1, n2⟩ | (simp (maxDischargeDepth := 6) [go_sem, *]; done)
  clear n0 n1 n2 r0 r1 r2 r3 r4
  replace N := N.drew
  replace R := R.drew
  replace B := Below.drew B
  replace CS := CS.drew
  generalize v.drew = v at *
  (obtain ⟨n0, n1, n2⟩ := id N); (obtain ⟨r0, r1, r2, r3, r4⟩ := id R)
  refine wpAnyH_take (i := 0) (v := ?_) (by rw [List.getElem?_toArray]; rfl) (by kernel_rfl) (by kernel_rfl) (by kernel_rfl) (by intro _ _ _ h; exact h) (Or.inl ⟨by rfl, ?_⟩) (by assumption) ?_
  rotate_left
  · (intro w hSw; (try dsimp only at hSw); go_simp; all_goals with_reducible rfl)
  (try simp only [Act.put, List.setIfInBounds_toArray, List.set_cons_zero, List.set_cons_succ])
  refine wpAnyH_take (i := 1) (v := ?_) (by rw [List.getElem?_toArray]; rfl) (by kernel_rfl) (by kernel_rfl) (by kernel_rfl) (by intro _ _ _ h; exact h) (Or.inl ⟨by rfl, ?_⟩) (by assumption) ?_
  rotate_left
  · (intro w hSw; (try dsimp only at hSw); go_simp; all_goals with_reducible rfl)
  (try simp only [Act.put, List.setIfInBounds_toArray, List.set_cons_zero, List.set_cons_succ])
  refine wpAnyH_take (i := 3) (v := ?_) (by rw [List.getElem?_toArray]; rfl) (by kernel_rfl) (by kernel_rfl) (by kernel_rfl) (by intro _ _ _ h; exact h) (Or.inl ⟨by rfl, ?_⟩) (by assumption) ?_
  rotate_left
  · (intro w hSw; (try dsimp only at hSw); go_simp; all_goals with_reducible rfl)
  (try simp only [Act.put, List.setIfInBounds_toArray, List.set_cons_zero, List.set_cons_succ])
  refine wpAnyH_take (i := 4) (v := ?_) (by rw [List.getElem?_toArray]; rfl) (by kernel_rfl) (by kernel_rfl) (by kernel_rfl) (by intro _ _ _ h; exact h) (Or.inl ⟨by rfl, ?_⟩) (by assumption) ?_
  rotate_left
  · (intro w hSw; (try dsimp only at hSw); go_simp; all_goals with_reducible rfl)
  (try simp only [Act.put, List.setIfInBounds_toArray, List.set_cons_zero, List.set_cons_succ])
  refine wpAnyH_ready (rs := [2]) (by kernel_rfl) (by simp) ?_
  refine (AllReadyH.cons (by rw [List.getElem?_toArray]; rfl) (fun K hK => ?_) AllReadyH.nil)
  go_simp
  (have hvz : w.heap.size + 2 ≤ v.heap.size := r0); (have O := World.ownsRow_made (base := w.heap.size + 2) (size := 5) (e := 30) v #[] 0 hvz (by simp [maxLen]) (by simp)); (have A := Below.nw v (.cells #[] 30)); clear n0 n1 n2 r0 r1 r2 r3 r4; (replace N := N.below A); (replace R := R.below A); (replace CS := CS.below A CS.1); (replace B := B.trans (A.mono B.size)); (have hsz : w.heap.size + 2 ≤ (v.alloc (.cells #[] 30)).heap.size := Nat.le_trans hvz A.size); clear A; (generalize v.alloc (.cells #[] 30) = v2 at *); (obtain ⟨n0, n1, n2⟩ := id N); (obtain ⟨r0, r1, r2, r3, r4⟩ := id R)
  refine hK.out _ _ ?_ (fun hHeld => ?_)
  · first | exact ⟨n1, n2⟩ | (simp (maxDischargeDepth := 6) [go_sem, *]; done)
  clear hK K
  (try simp only [Act.put, List.setIfInBounds_toArray, List.set_cons_zero, List.set_cons_succ])
  refine wpAnyH_ready (rs := [5]) (by kernel_rfl) (by simp) ?_
  refine (AllReadyH.cons (by rw [List.getElem?_toArray]; rfl) (fun K hK => ?_) AllReadyH.nil)
  rw [if_pos (by rfl)]; (have HN : Hid (∀ j u, (frow M n)[j]? = some u → v2.cell? ((⟨b, 0, none⟩ : Addr).add j) = some u) := cells_src CS); refine wp_append_own _ _ _ 24 rfl (w.heap.size + 2) 30 i0 (.agg #[.int .i64 0, .int .i64 0, .int .i64 0, .string ⟨#[]⟩, .int .i64 0]) 5 48 Try.underlying24 hi hz0 hz1 hz2 rfl (by decide) _ _ _ rfl O ⟨b, 0, none⟩ n c (frow M n) rfl (frow_len M n) HN.out (frow_one M n) (by unfold maxLen; omega) (by omega) hsz ?_; intro v' wn hown' hgrow _; (have Bg := But.ofGrown hgrow); clear n0 n1 n2 r0 r1 r2 r3 r4; (replace N := N.but Bg (Nat.ne_of_lt (Nat.lt_of_lt_of_le (by omega) hvz))); (replace R := R.but Bg (Nat.ne_of_lt (Nat.lt_of_lt_of_le (by omega) hvz))); (replace B := B.trans (Bg.below (Nat.le_trans (by omega) hvz) B.size)); rw [Nat.zero_add, List.nil_append] at hown'; (obtain ⟨a', c', rfl, _, _, _⟩ := ownF_src hown'); clear hgrow HN Bg; (obtain ⟨n0, n1, n2⟩ := id N); (obtain ⟨r0, r1, r2, r3, r4⟩ := id R)
  refine hK.out _ _ ?_ (fun hHeld => ?_)
  · first | exact ⟨n1, n2⟩ | (simp (maxDischargeDepth := 6) [go_sem, *]; done)
  clear hK K
  (try simp only [Act.put, List.setIfInBounds_toArray, List.set_cons_zero, List.set_cons_succ])
  refine wpAnyH_take (i := 6) (v := ?_) (by rw [List.getElem?_toArray]; rfl) (by kernel_rfl) (by kernel_rfl) (by kernel_rfl) (by intro _ _ _ h; exact h) (Or.inl ⟨by rfl, ?_⟩) (by assumption) ?_
  rotate_left
  · (intro w hSw; (try dsimp only at hSw); go_simp; all_goals with_reducible rfl)
  (try simp only [Act.put, List.setIfInBounds_toArray, List.set_cons_zero, List.set_cons_succ])
  refine wpAnyH_ready (rs := [7]) (by kernel_rfl) (by simp) ?_
  refine (AllReadyH.cons (by rw [List.getElem?_toArray]; rfl) (fun K hK => ?_) AllReadyH.nil)
  go_simp
  refine hK.out _ _ ?_ (fun hHeld => ?_)
  · first | exact ⟨n1, n2⟩ | (simp (maxDischargeDepth := 6) [go_sem, *]; done)
  clear hK K
  (try simp only [Act.put, List.setIfInBounds_toArray, List.set_cons_zero, List.set_cons_succ])
  refine wpAnyH_done (by kernel_rfl) ?_ _
  go_wp2_with fail
  have PB := ((But.refl (w.heap.size + 1) wn).setCell 0 (.int .i64 nx)).setCell 1 (.slice a' n c')
  exact bodyPost_ret (v := .agg #[.int .i64 nx, .slice a' n c']) (by simp (maxDischargeDepth := 6) [results, Try.results21, go_sem, *]) rfl ⟨a', c', rfl, ownB_le (own_butF hown' PB (by omega)) (by omega), B.trans (PB.below (by omega) B.size)⟩
def TkIs (nx : Int) (M : Nat → FT) (n : Nat) (i : Int) (X : Int) (m : Nat) (G : Nat → FT) (Y : FT) (C : Int) : Prop :=
  (netB nx M n = false ∧ X = 0 ∧ m = 0 ∧ Y = zF ∧ C = 1) ∨ (netB nx M n = true ∧ ¬ (0 ≤ i ∧ i < (n : Int)) ∧ X = nx ∧ m = n ∧ G = M ∧ Y = zF ∧ C = 2) ∨ (netB nx M n = true ∧ ∃ k : Nat, i = (k : Int) ∧ k < n ∧ X = nx ∧ m = n - 1 ∧ G = cutG M k ∧ Y = M k ∧ C = 0)
theorem tk_ex (nx : Int) (M : Nat → FT) (n : Nat) (i : Int) : ∃ X m G Y C, TkIs nx M n i X m G Y C ∧ m ≤ n := by
  cases h : netB nx M n
  · exact ⟨0, 0, M, zF, 1, .inl ⟨h, rfl, rfl, rfl, rfl⟩, Nat.zero_le _⟩
  · by_cases hi : 0 ≤ i ∧ i < (n : Int)
    · exact ⟨nx, n - 1, cutG M i.toNat, M i.toNat, 0, .inr (.inr ⟨h, i.toNat, by omega, by omega, rfl, rfl, rfl, rfl, rfl⟩), by omega⟩
    · exact ⟨nx, n, M, zF, 2, .inr (.inl ⟨h, hi, rfl, rfl, rfl, rfl, rfl⟩), Nat.le_refl _⟩
theorem grown_belowF {w w' : World} {base : Nat} {e : TypeId} {size : Nat} {v : Value} {n : Nat} {xs : List Value} (h : w.ownsRow base e size v n xs) (hg : w.grownBy w' v.ownBlock) (hs : base ≤ w.heap.size) : Below base w w' :=
  ⟨hg.os, hg.tape, hg.output, hg.size, fun k hk => hg.block k (by omega) (fun he => by have := (World.ownsRow.lt h k he.symm).1; omega)⟩
theorem own_srcF {w : World} {base n c : Nat} {a : Option Addr} {G : Nat → FT} (h : w.ownsRow base 30 5 (.slice a n c) n (frow G n)) : SrcC w a (n * 5) (MFFlight G) := by
  obtain ⟨a2, c2, e2, _, _, S⟩ := ownF_src h
  injection e2 with e2 e3 e4
  subst e2
  exact S
theorem netB_n {nx : Int} {M : Nat → FT} {n : Nat} (h : netB nx M n = true) : n ≤ 40 := by
  by_cases hn : n ≤ 40
  · exact hn
  · rw [netB_long hn] at h; exact absurd h (by decide)
def ct (i k : Nat) : Nat := if k ≤ i then k else k - 1
theorem cut_at {M : Nat → FT} {i k : Nat} (h : k ≠ i) : cutG M i (ct i k) = M k ∧ ct i (k + 1) = ct i k + 1 := by
  unfold cutG ct
  by_cases h1 : k ≤ i
  · rw [if_pos h1, if_pos (by omega), if_pos (by omega)]; exact ⟨rfl, rfl⟩
  · rw [if_neg h1, if_neg (by omega), if_neg (by omega)]
    exact ⟨by rw [show k - 1 + 1 = k by omega], by omega⟩
theorem ct_same (i : Nat) : ct i (i + 1) = ct i i := by unfold ct; rw [if_neg (by omega), if_pos (Nat.le_refl _)]; omega
theorem ct_end {i n : Nat} (h : i < n) : ct i n = n - 1 := by unfold ct; rw [if_neg (by omega)]
theorem ct_le (i k : Nat) : ct i k ≤ k := by unfold ct; split <;> omega
set_option maxHeartbeats 4000000 in
theorem specNetTake_bad (nx i : Int) (b n c : Nat) (M : Nat → FT) (w : World) (hm : n ≤ maxLen) (hf : Cs w b 0 (n * 5) (MFFlight M)) (hs : ∀ i, i < n → ((M i).2.2.2.1).size ≤ maxLen) (h : netB nx M n = false) :
    Calls Try.prog 7 #[.agg #[.int .i64 nx, .slice (some ⟨b, 0, none⟩) n c], .int .i64 i] w fun e w' => e = .returned (.tuple #[.agg #[.int .i64 0, .slice none 0 0], .agg #[.int .i64 0, .int .i64 0, .int .i64 0, .string ⟨#[]⟩, .int .i64 0], .int .i64 1]) ∧ Below w.heap.size w w' := by
  have R1 := (B2.new (w.alloc (.cells #[.int .i64 nx, .slice (some ⟨b, 0, none⟩) n c] 26)) (.int .i64 0) (.slice none 0 0) 26).below (Below.nw _ (.cells #[.int .i64 0, .int .i64 0, .int .i64 0, .string ⟨#[]⟩, .int .i64 0] 30))
  have R2 := F5.new ((w.alloc (.cells #[.int .i64 nx, .slice (some ⟨b, 0, none⟩) n c] 26)).alloc (.cells #[.int .i64 0, .slice none 0 0] 26)) 0 0 0 ⟨#[]⟩ 0 30
  have A1 := Below.nw w (.cells #[.int .i64 nx, .slice (some ⟨b, 0, none⟩) n c] 26)
  have A2 := A1.alloc A1.size (.cells #[.int .i64 0, .slice none 0 0] 26)
  have B := A2.alloc A2.size (.cells #[.int .i64 0, .int .i64 0, .int .i64 0, .string ⟨#[]⟩, .int .i64 0] 30)
  have CO := fun w' (h' : Cs w' b 0 (n * 5) (MFFlight M)) => specNetOk_any nx (some ⟨b, 0, none⟩) n c M w' hm (.inr ⟨b, 0, rfl, h'⟩) hs
  rw [h] at CO
  have CS := hf.below B hf.1
  simp only [World.size_alloc] at R1 R2
  clear hf A1 A2 h
  go_enter Try.func7, Try.ntmps7
  go_wp2_with fail
  refine (CO _ CS).mono ?_
  rintro e v ⟨rfl, hb⟩
  replace B := B.trans (hb.mono B.size)
  obtain ⟨r0, r1, r2, r3, r4⟩ := R1.below hb
  obtain ⟨f0, f1, f2, f3, f4, f5, f6, f7, f8, f9, f10⟩ := R2.below hb
  clear hb CO CS R1 R2
  go_wp2
  have PB1 := ((But.refl (w.heap.size + 1) v).setCell 0 (.int .i64 0)).setCell 1 (.slice none 0 0)
  have PB2 := put5_but ((v.setCell ⟨w.heap.size + 1, 0, none⟩ (.int .i64 0)).setCell ⟨w.heap.size + 1, 1, none⟩ (.slice none 0 0)) (w.heap.size + 1 + 1) 0 (.int .i64 0) (.int .i64 0) (.int .i64 0) (.string ⟨#[]⟩) (.int .i64 0)
  exact bodyPost_ret (v := .tuple #[.agg #[.int .i64 0, .slice none 0 0], .agg #[.int .i64 0, .int .i64 0, .int .i64 0, .string ⟨#[]⟩, .int .i64 0], .int .i64 1]) (by simp (maxDischargeDepth := 6) [results, Try.results7, go_sem, *]) rfl ⟨rfl, (B.trans (PB1.below (by omega) B.size)).trans (PB2.below (by omega) (B.trans (PB1.below (B := w.heap.size) (by omega) B.size)).size)⟩
set_option maxHeartbeats 4000000 in
theorem specNetTake_none (nx i : Int) (b n c : Nat) (M : Nat → FT) (w : World) (hm : n ≤ maxLen) (hf : Cs w b 0 (n * 5) (MFFlight M)) (hs : ∀ i, i < n → ((M i).2.2.2.1).size ≤ maxLen) (h : netB nx M n = true) (hi : ¬ (0 ≤ i ∧ i < (n : Int))) :
    Calls Try.prog 7 #[.agg #[.int .i64 nx, .slice (some ⟨b, 0, none⟩) n c], .int .i64 i] w fun e w' => ∃ a' c', e = .returned (.tuple #[.agg #[.int .i64 nx, .slice a' n c'], .agg #[.int .i64 0, .int .i64 0, .int .i64 0, .string ⟨#[]⟩, .int .i64 0], .int .i64 2]) ∧ w'.ownsRow w.heap.size 30 5 (.slice a' n c') n (frow M n) ∧ Below w.heap.size w w' := by
  have hn40 := netB_n h
  have N := ((NB.new w nx (some ⟨b, 0, none⟩) n c 26).below (Below.nw _ (.cells #[.int .i64 0, .slice none 0 0] 26))).below (Below.nw _ (.cells #[.int .i64 0, .int .i64 0, .int .i64 0, .string ⟨#[]⟩, .int .i64 0] 30))
  have R1 := (B2.new (w.alloc (.cells #[.int .i64 nx, .slice (some ⟨b, 0, none⟩) n c] 26)) (.int .i64 0) (.slice none 0 0) 26).below (Below.nw _ (.cells #[.int .i64 0, .int .i64 0, .int .i64 0, .string ⟨#[]⟩, .int .i64 0] 30))
  have R2 := F5.new ((w.alloc (.cells #[.int .i64 nx, .slice (some ⟨b, 0, none⟩) n c] 26)).alloc (.cells #[.int .i64 0, .slice none 0 0] 26)) 0 0 0 ⟨#[]⟩ 0 30
  have A1 := Below.nw w (.cells #[.int .i64 nx, .slice (some ⟨b, 0, none⟩) n c] 26)
  have A2 := A1.alloc A1.size (.cells #[.int .i64 0, .slice none 0 0] 26)
  have B := A2.alloc A2.size (.cells #[.int .i64 0, .int .i64 0, .int .i64 0, .string ⟨#[]⟩, .int .i64 0] 30)
  have CO := fun w' (h' : Cs w' b 0 (n * 5) (MFFlight M)) => specNetOk_any nx (some ⟨b, 0, none⟩) n c M w' hm (.inr ⟨b, 0, rfl, h'⟩) hs
  rw [h] at CO
  have CS := hf.below B hf.1
  have hbw := hf.1
  simp only [World.size_alloc] at R1 R2
  clear hf A1 A2 h
  go_enter Try.func7, Try.ntmps7
  go_wp2_with fail
  refine (CO _ CS).mono ?_
  rintro e v ⟨rfl, hb⟩
  replace B := B.trans (hb.mono B.size)
  replace N := N.below hb
  replace R1 := R1.below hb
  replace R2 := R2.below hb
  replace CS := CS.below hb CS.1
  clear hb CO
  obtain ⟨n0, n1, n2⟩ := id N
  by_cases hi0 : i < 0
  · have d1 : decide (i < 0) = true := decide_eq_true hi0
    go_wp2_with fail
    refine (l5Copy_any nx b n c M v hn40 CS).mono ?_
    rintro e v2 ⟨a', c', rfl, O2, hb⟩
    replace B := B.trans (hb.mono B.size)
    have hv2 : w.heap.size + 1 + 1 < v.heap.size := R2.1
    obtain ⟨r0, r1, r2, r3, r4⟩ := R1.below hb
    obtain ⟨f0, f1, f2, f3, f4, f5, f6, f7, f8, f9, f10⟩ := R2.below hb
    clear hb CS R1 R2 N n0 n1 n2
    go_wp2_with fail
    have PB1 := ((But.refl (w.heap.size + 1) v2).setCell 0 (.int .i64 nx)).setCell 1 (.slice a' n c')
    have PB2 := put5_but ((v2.setCell ⟨w.heap.size + 1, 0, none⟩ (.int .i64 nx)).setCell ⟨w.heap.size + 1, 1, none⟩ (.slice a' n c')) (w.heap.size + 1 + 1) 0 (.int .i64 0) (.int .i64 0) (.int .i64 0) (.string ⟨#[]⟩) (.int .i64 0)
    exact bodyPost_ret (v := .tuple #[.agg #[.int .i64 nx, .slice a' n c'], .agg #[.int .i64 0, .int .i64 0, .int .i64 0, .string ⟨#[]⟩, .int .i64 0], .int .i64 2]) (by simp (maxDischargeDepth := 6) [results, Try.results7, go_sem, *]) rfl ⟨a', c', rfl, ownB_le (own_butF (own_butF O2 PB1 (by omega)) PB2 (by omega)) (by omega), (B.trans (PB1.below (by omega) B.size)).trans (PB2.below (by omega) (B.trans (PB1.below (B := w.heap.size) (by omega) B.size)).size)⟩
  · have d1 : decide (i < 0) = false := decide_eq_false hi0
    have d2 : decide ((n : Int) ≤ i) = true := decide_eq_true (by omega)
    go_wp2_with fail
    refine (l5Copy_any nx b n c M v hn40 CS).mono ?_
    rintro e v2 ⟨a', c', rfl, O2, hb⟩
    replace B := B.trans (hb.mono B.size)
    have hv2 : w.heap.size + 1 + 1 < v.heap.size := R2.1
    obtain ⟨r0, r1, r2, r3, r4⟩ := R1.below hb
    obtain ⟨f0, f1, f2, f3, f4, f5, f6, f7, f8, f9, f10⟩ := R2.below hb
    clear hb CS R1 R2 N n0 n1 n2
    go_wp2_with fail
    have PB1 := ((But.refl (w.heap.size + 1) v2).setCell 0 (.int .i64 nx)).setCell 1 (.slice a' n c')
    have PB2 := put5_but ((v2.setCell ⟨w.heap.size + 1, 0, none⟩ (.int .i64 nx)).setCell ⟨w.heap.size + 1, 1, none⟩ (.slice a' n c')) (w.heap.size + 1 + 1) 0 (.int .i64 0) (.int .i64 0) (.int .i64 0) (.string ⟨#[]⟩) (.int .i64 0)
    exact bodyPost_ret (v := .tuple #[.agg #[.int .i64 nx, .slice a' n c'], .agg #[.int .i64 0, .int .i64 0, .int .i64 0, .string ⟨#[]⟩, .int .i64 0], .int .i64 2]) (by simp (maxDischargeDepth := 6) [results, Try.results7, go_sem, *]) rfl ⟨a', c', rfl, ownB_le (own_butF (own_butF O2 PB1 (by omega)) PB2 (by omega)) (by omega), (B.trans (PB1.below (by omega) B.size)).trans (PB2.below (by omega) (B.trans (PB1.below (B := w.heap.size) (by omega) B.size)).size)⟩
theorem B2.set1 {w : World} {j : Nat} {u0 u1 : Value} (h : B2 w j u0 u1) (a1 : Value) : B2 (w.setCell ⟨j, 1, none⟩ a1) j u0 a1 := by
  obtain ⟨h0, c0, c1, f0, f1⟩ := h
  exact ⟨by simpa using h0, by rw [World.cell?_setCell_other _ _ _ _ (by simp)]; exact c0, World.cell?_setCell_same _ _ _ c1, by simpa using f0, by simpa using f1⟩
theorem B2.setB {w : World} {j : Nat} {u0 u1 : Value} (h : B2 w j u0 u1) (a0 a1 : Value) : B2 ((w.setCell ⟨j, 0, none⟩ a0).setCell ⟨j, 1, none⟩ a1) j a0 a1 := by
  obtain ⟨h0, c0, c1, f0, f1⟩ := h
  refine ⟨by simpa using h0, ?_, ?_, by simpa using f0, by simpa using f1⟩
  · rw [World.cell?_setCell_other _ _ _ _ (by simp), World.cell?_setCell_same _ _ _ c0]
  · exact World.cell?_setCell_same _ _ _ (by rw [World.cell?_setCell_other _ _ _ _ (by simp)]; exact c1)
def put5z (w : World) (j : Nat) (a0 a1 a2 a3 a4 : Value) : World := ((((w.setCell ⟨j, 0, none⟩ a0).setCell ⟨j, 1, none⟩ a1).setCell ⟨j, 2, none⟩ a2).setCell ⟨j, 3, none⟩ a3).setCell ⟨j, 4, none⟩ a4
theorem put5z_but (w : World) (j : Nat) (a0 a1 a2 a3 a4 : Value) : But j w (put5z w j a0 a1 a2 a3 a4) := (((((But.refl j w).setCell _ a0).setCell _ a1).setCell _ a2).setCell _ a3).setCell _ a4
theorem F5.set5 {w : World} {j : Nat} {x0 x1 x2 : Int} {x3 : ByteArray} {x4 : Int} (h : F5 w j x0 x1 x2 x3 x4) (y0 y1 y2 : Int) (y3 : ByteArray) (y4 : Int) : F5 (put5z w j (.int .i64 y0) (.int .i64 y1) (.int .i64 y2) (.string y3) (.int .i64 y4)) j y0 y1 y2 y3 y4 := by
  obtain ⟨h0, c0, c1, c2, c3, c4, f0, f1, f2, f3, f4⟩ := h
  have n0 : ∀ (W : World) (i k : Nat) (u : Value), i ≠ k → (W.setCell ⟨j, i, none⟩ u).cell? ⟨j, k, none⟩ = W.cell? ⟨j, k, none⟩ := fun W i k u hik => World.cell?_setCell_other _ _ _ _ (by intro e; exact hik (congrArg Addr.off e))
  refine ⟨by simpa [put5z] using h0, ?_, ?_, ?_, ?_, ?_, by simpa [put5z] using f0, by simpa [put5z] using f1, by simpa [put5z] using f2, by simpa [put5z] using f3, by simpa [put5z] using f4⟩
  · unfold put5z; rw [n0 _ _ _ _ (by decide), n0 _ _ _ _ (by decide), n0 _ _ _ _ (by decide), n0 _ _ _ _ (by decide)]; exact World.cell?_setCell_same _ _ _ c0
  · unfold put5z; rw [n0 _ _ _ _ (by decide), n0 _ _ _ _ (by decide), n0 _ _ _ _ (by decide)]; exact World.cell?_setCell_same _ _ _ (by rw [n0 _ _ _ _ (by decide)]; exact c1)
  · unfold put5z; rw [n0 _ _ _ _ (by decide), n0 _ _ _ _ (by decide)]; exact World.cell?_setCell_same _ _ _ (by rw [n0 _ _ _ _ (by decide), n0 _ _ _ _ (by decide)]; exact c2)
  · unfold put5z; rw [n0 _ _ _ _ (by decide)]; exact World.cell?_setCell_same _ _ _ (by rw [n0 _ _ _ _ (by decide), n0 _ _ _ _ (by decide), n0 _ _ _ _ (by decide)]; exact c3)
  · unfold put5z; exact World.cell?_setCell_same _ _ _ (by rw [n0 _ _ _ _ (by decide), n0 _ _ _ _ (by decide), n0 _ _ _ _ (by decide), n0 _ _ _ _ (by decide)]; exact c4)
def TkInv (nx : Int) (M : Nat → FT) (w : World) (i b n c jo k : Nat) (wr : World) : Prop := ∃ vk : Value, B2 wr jo (.int .i64 nx) vk ∧ wr.ownsRow (jo + 1) 30 5 vk (ct i k) (frow (cutG M i) (ct i k)) ∧ NB wr w.heap.size nx (some ⟨b, 0, none⟩) n c ∧ B2 wr (w.heap.size + 1) (.int .i64 0) (.slice none 0 0) ∧ F5 wr (w.heap.size + 1 + 1) 0 0 0 ⟨#[]⟩ 0 ∧ Cs wr b 0 (n * 5) (MFFlight M) ∧ Below w.heap.size w wr
set_option maxRecDepth 100000 in
set_option maxHeartbeats 4000000 in
theorem specNetTake_done (nx : Int) (i b n c : Nat) (M : Nat → FT) (y0 y1 y2 : Int) (y3 : ByteArray) (y4 : Int) (w : World) (hm : n ≤ maxLen) (hf : Cs w b 0 (n * 5) (MFFlight M)) (hs : ∀ i, i < n → ((M i).2.2.2.1).size ≤ maxLen) (h : netB nx M n = true) (hin : i < n) (hY : M i = (y0, y1, y2, y3, y4)) :
    Calls Try.prog 7 #[.agg #[.int .i64 nx, .slice (some ⟨b, 0, none⟩) n c], .int .i64 (i : Int)] w fun e w' => ∃ a' c', e = .returned (.tuple #[.agg #[.int .i64 nx, .slice a' (n - 1) c'], .agg #[.int .i64 y0, .int .i64 y1, .int .i64 y2, .string y3, .int .i64 y4], .int .i64 0]) ∧ w'.ownsRow w.heap.size 30 5 (.slice a' (n - 1) c') (n - 1) (frow (cutG M i) (n - 1)) ∧ Below w.heap.size w w' := by
  have hn40 := netB_n h
  obtain ⟨i0, hi, hz0, hz1, hz2⟩ := infoF_parts
  have N := ((NB.new w nx (some ⟨b, 0, none⟩) n c 26).below (Below.nw _ (.cells #[.int .i64 0, .slice none 0 0] 26))).below (Below.nw _ (.cells #[.int .i64 0, .int .i64 0, .int .i64 0, .string ⟨#[]⟩, .int .i64 0] 30))
  have R1 := (B2.new (w.alloc (.cells #[.int .i64 nx, .slice (some ⟨b, 0, none⟩) n c] 26)) (.int .i64 0) (.slice none 0 0) 26).below (Below.nw _ (.cells #[.int .i64 0, .int .i64 0, .int .i64 0, .string ⟨#[]⟩, .int .i64 0] 30))
  have R2 := F5.new ((w.alloc (.cells #[.int .i64 nx, .slice (some ⟨b, 0, none⟩) n c] 26)).alloc (.cells #[.int .i64 0, .slice none 0 0] 26)) 0 0 0 ⟨#[]⟩ 0 30
  have A1 := Below.nw w (.cells #[.int .i64 nx, .slice (some ⟨b, 0, none⟩) n c] 26)
  have A2 := A1.alloc A1.size (.cells #[.int .i64 0, .slice none 0 0] 26)
  have B := A2.alloc A2.size (.cells #[.int .i64 0, .int .i64 0, .int .i64 0, .string ⟨#[]⟩, .int .i64 0] 30)
  have CO := fun w' (h' : Cs w' b 0 (n * 5) (MFFlight M)) => specNetOk_any nx (some ⟨b, 0, none⟩) n c M w' hm (.inr ⟨b, 0, rfl, h'⟩) hs
  rw [h] at CO
  have CS := hf.below B hf.1
  have hbw := hf.1
  have HY : Hid (M i = (y0, y1, y2, y3, y4)) := hY
  simp only [World.size_alloc] at R1 R2
  clear hf A1 A2 h hY hs
  go_enter Try.func7, Try.ntmps7
  go_wp2_with fail
  refine (CO _ CS).mono ?_
  rintro e v ⟨rfl, hb⟩
  replace B := B.trans (hb.mono B.size)
  replace N := N.below hb
  replace R1 := R1.below hb
  replace R2 := R2.below hb
  replace CS := CS.below hb CS.1
  clear hb CO
  have A3 := Below.nw v (.cells #[.int .i64 nx, .slice none 0 0] 26)
  have O := B2.new v (.int .i64 nx) (.slice none 0 0) 26
  obtain ⟨n0, n1, n2⟩ := id N
  have d1 : decide ((i : Int) < 0) = false := decide_eq_false (by omega)
  have d2 : decide ((n : Int) ≤ (i : Int)) = false := decide_eq_false (by omega)
  have d3 : decide (n ≤ i) = false := decide_eq_false (by omega)
  go_wp2_with fail
  have hjo : w.heap.size + 1 + 1 < v.heap.size := R2.1
  replace B := B.trans (A3.mono B.size)
  replace N := N.below A3
  replace R1 := R1.below A3
  replace R2 := R2.below A3
  replace CS := CS.below A3 CS.1
  have W0 : (v.alloc (.cells #[.int .i64 nx, .slice none 0 0] 26)).ownsRow (v.heap.size + 1) 30 5 (.slice none 0 0) (ct i 0) (frow (cutG M i) (ct i 0)) := by
    have e : ct i 0 = 0 := by simp [ct]
    rw [e]; exact World.ownsRow_nil _ _ _ _
  clear A3 n0 n1 n2 d1 d2 d3
  generalize v.heap.size = jo at *
  generalize v.alloc (.cells #[.int .i64 nx, .slice none 0 0] 26) = v1 at *
  go_loopw [8] (fun s8 wr => ∃ k : Nat, k ≤ n ∧ s8 = .int .i64 (k : Int) ∧ TkInv nx M w i b n c jo k wr) (fun s8 _ => n - (intOf s8).toNat)
  case atStart => exact ⟨0, Nat.zero_le _, rfl, _, O, W0, N, R1, R2, CS, B⟩
  case round =>
    clear O W0 N R1 R2 CS B
    obtain ⟨k, hk, rfl, vk, O, W, N, R1, R2, CS, B⟩ := hrel
    obtain ⟨n0, n1, n2⟩ := id N
    obtain ⟨o0, o1, o2, o3, o4⟩ := id O
    by_cases hlt : k < n
    · have hli : decide ((k : Int) < (n : Int)) = true := decide_eq_true (by omega)
      by_cases hki : k = i
      · subst hki
        have e := ct_same k
        go_wp2_with fail
        go_roundw
        case rel => exact ⟨k + 1, by omega, by go_num, vk, O, by rw [e]; exact W, N, R1, R2, CS, B⟩
        case measure => simp [intOf]; omega
      · have hne : ((k : Int) == (i : Int)) = false := by rw [beq_eq_false_iff_ne]; omega
        obtain ⟨ec, en⟩ := cut_at (M := M) hki
        obtain ⟨x0, x1, x2, x3, x4, hM⟩ := tupFlight M k
        obtain ⟨c0, c1, c2, c3, c4⟩ := CS.elFlight hlt hM
        have HW : Hid (frow (cutG M i) (ct i k) ++ [.int .i64 x0, .int .i64 x1, .int .i64 x2, .string x3, .int .i64 x4] = frow (cutG M i) (ct i k + 1)) := frow_add (ec.trans hM)
        have hcl := ct_le i k
        have HEN : Hid (ct i (k + 1) = ct i k + 1) := en
        rw [Nat.zero_add] at c0 c1 c2 c3 c4
        clear ec en hM
        generalize ct i k = q at *
        go_wp2_with fail
        have hbj : b < jo + 1 := by omega
        refine wp_region_held_drew (S := (fun w' => w'.cell? ⟨w.heap.size, 1, none⟩ = some (.slice (some ⟨b, 0, none⟩) n c) ∧ w'.cell? ⟨b, k * 5, none⟩ = some (.int .i64 x0) ∧ w'.cell? ⟨b, k * 5 + 1, none⟩ = some (.int .i64 x1) ∧ w'.cell? ⟨b, k * 5 + 2, none⟩ = some (.int .i64 x2) ∧ w'.cell? ⟨b, k * 5 + 3, none⟩ = some (.string x3) ∧ w'.cell? ⟨b, k * 5 + 4, none⟩ = some (.int .i64 x4))) (by kernel_rfl) ?_ (fun hHeld => ?_)
        · first | exact ⟨n2, c0, c1, c2, c3, c4⟩ | (simp (maxDischargeDepth := 6) [go_sem, *]; done)
        clear n0 n1 n2 o0 o1 o2 o3 o4
        replace N := N.drew
        replace O := O.drew
        replace R1 := R1.drew
        replace R2 := R2.drew
        replace B := Below.drew B
        replace CS := CS.drew
        replace W := World.ownsRow.drew W
        replace c0 : wr.drew.cell? _ = _ := c0
        replace c1 : wr.drew.cell? _ = _ := c1
        replace c2 : wr.drew.cell? _ = _ := c2
        replace c3 : wr.drew.cell? _ = _ := c3
        replace c4 : wr.drew.cell? _ = _ := c4
        generalize wr.drew = v at *
        (obtain ⟨n0, n1, n2⟩ := id N); (obtain ⟨o0, o1, o2, o3, o4⟩ := id O)
        refine wpAnyH_take (i := 0) (v := ?_) (by rw [List.getElem?_toArray]; rfl) (by kernel_rfl) (by kernel_rfl) (by kernel_rfl) (by intro _ _ _ h; exact h) (Or.inl ⟨by rfl, ?_⟩) (by assumption) ?_
        rotate_left
        · (intro w hSw; (try dsimp only at hSw); go_simp; all_goals with_reducible rfl)
        (try simp only [Act.put, List.setIfInBounds_toArray, List.set_cons_zero, List.set_cons_succ])
        refine wpAnyH_take (i := 2) (v := ?_) (by rw [List.getElem?_toArray]; rfl) (by kernel_rfl) (by kernel_rfl) (by kernel_rfl) (by intro _ _ _ h; exact h) (Or.inl ⟨by rfl, ?_⟩) (by assumption) ?_
        rotate_left
        · (intro w hSw; (try dsimp only at hSw); go_simp; all_goals with_reducible rfl)
        (try simp only [Act.put, List.setIfInBounds_toArray, List.set_cons_zero, List.set_cons_succ])
        refine wpAnyH_take (i := 3) (v := ?_) (by rw [List.getElem?_toArray]; rfl) (by kernel_rfl) (by kernel_rfl) (by kernel_rfl) (by intro _ _ _ h; exact h) (Or.inl ⟨by rfl, ?_⟩) (by assumption) ?_
        rotate_left
        · (intro w hSw; (try dsimp only at hSw); go_simp; all_goals with_reducible rfl)
        (try simp only [Act.put, List.setIfInBounds_toArray, List.set_cons_zero, List.set_cons_succ])
        refine wpAnyH_take (i := 4) (v := ?_) (by rw [List.getElem?_toArray]; rfl) (by kernel_rfl) (by kernel_rfl) (by kernel_rfl) (by intro _ _ _ h; exact h) (Or.inl ⟨by rfl, ?_⟩) (by assumption) ?_
        rotate_left
        · (intro w hSw; (try dsimp only at hSw); go_simp; all_goals with_reducible rfl)
        (try simp only [Act.put, List.setIfInBounds_toArray, List.set_cons_zero, List.set_cons_succ])
        refine wpAnyH_take (i := 5) (v := ?_) (by rw [List.getElem?_toArray]; rfl) (by kernel_rfl) (by kernel_rfl) (by kernel_rfl) (by intro _ _ _ h; exact h) (Or.inl ⟨by rfl, ?_⟩) (by assumption) ?_
        rotate_left
        · (intro w hSw; (try dsimp only at hSw); go_simp; all_goals with_reducible rfl)
        (try simp only [Act.put, List.setIfInBounds_toArray, List.set_cons_zero, List.set_cons_succ])
        refine wpAnyH_take (i := 6) (v := ?_) (by rw [List.getElem?_toArray]; rfl) (by kernel_rfl) (by kernel_rfl) (by kernel_rfl) (by intro _ _ _ h; exact h) (Or.inl ⟨by rfl, ?_⟩) (by assumption) ?_
        rotate_left
        · (intro w hSw; (try dsimp only at hSw); go_simp; all_goals with_reducible rfl)
        (try simp only [Act.put, List.setIfInBounds_toArray, List.set_cons_zero, List.set_cons_succ])
        refine wpAnyH_ready (rs := [1, 7]) (by kernel_rfl) (by simp) ?_
        refine (AllReadyH.cons (by rw [List.getElem?_toArray]; rfl) (fun K hK => ?_) (AllReadyH.cons (by rw [List.getElem?_toArray]; rfl) (fun K hK => ?_) AllReadyH.nil))
        · go_simp
          refine hK.out _ _ ?_ (fun hHeld => ?_)
          · first | exact ⟨n2, c0, c1, c2, c3, c4⟩ | (simp (maxDischargeDepth := 6) [go_sem, *]; done)
          clear hK K
          (try simp only [Act.put, List.setIfInBounds_toArray, List.set_cons_zero, List.set_cons_succ])
          refine wpAnyH_ready (rs := [7]) (by kernel_rfl) (by simp) ?_
          refine (AllReadyH.cons (by rw [List.getElem?_toArray]; rfl) (fun K hK => ?_) AllReadyH.nil)
          go_simp
          (have A := Below.nw v (.cells #[.int .i64 x0, .int .i64 x1, .int .i64 x2, .string x3, .int .i64 x4] 30)); (have hvz : jo + 1 ≤ v.heap.size := o0); (have HF : Hid (∀ j u, [Value.int .i64 x0, .int .i64 x1, .int .i64 x2, .string x3, .int .i64 x4][j]? = some u → (v.alloc (.cells #[.int .i64 x0, .int .i64 x1, .int .i64 x2, .string x3, .int .i64 x4] 30)).cell? ((⟨v.heap.size, 0, none⟩ : Addr).add j) = some u) := fun j u hu => five_at v x0 x1 x2 x3 x4 30 j u hu); clear n0 n1 n2 o0 o1 o2 o3 o4; (replace c0 := (A.cell (p := ⟨b, k * 5, none⟩) CS.1).trans c0); (replace c1 := (A.cell (p := ⟨b, k * 5 + 1, none⟩) CS.1).trans c1); (replace c2 := (A.cell (p := ⟨b, k * 5 + 2, none⟩) CS.1).trans c2); (replace c3 := (A.cell (p := ⟨b, k * 5 + 3, none⟩) CS.1).trans c3); (replace c4 := (A.cell (p := ⟨b, k * 5 + 4, none⟩) CS.1).trans c4); (replace N := N.below A); (replace O := O.below A); (replace R1 := R1.below A); (replace R2 := R2.below A); (replace W := World.ownsRow.alloc W (.cells #[.int .i64 x0, .int .i64 x1, .int .i64 x2, .string x3, .int .i64 x4] 30)); (replace CS := CS.below A CS.1); (replace B := B.trans (A.mono B.size)); (have hsz : jo + 1 ≤ (v.alloc (.cells #[.int .i64 x0, .int .i64 x1, .int .i64 x2, .string x3, .int .i64 x4] 30)).heap.size := Nat.le_trans hvz A.size); (have hcsz := CS.1); clear A; (generalize v.alloc (.cells #[.int .i64 x0, .int .i64 x1, .int .i64 x2, .string x3, .int .i64 x4] 30) = v2 at *); (generalize v.heap.size = jv at *); (obtain ⟨n0, n1, n2⟩ := id N); (obtain ⟨o0, o1, o2, o3, o4⟩ := id O)
          refine hK.out _ _ ?_ (fun hHeld => ?_)
          · first | exact ⟨n2, c0, c1, c2, c3, c4⟩ | (simp (maxDischargeDepth := 6) [go_sem, *]; done)
          clear hK K
          (try simp only [Act.put, List.setIfInBounds_toArray, List.set_cons_zero, List.set_cons_succ])
          refine wpAnyH_ready (rs := [8]) (by kernel_rfl) (by simp) ?_
          refine (AllReadyH.cons (by rw [List.getElem?_toArray]; rfl) (fun K hK => ?_) AllReadyH.nil)
          rw [if_pos (by rfl)]; refine wp_append_own _ _ _ 24 rfl (jo + 1) 30 i0 (.agg #[.int .i64 0, .int .i64 0, .int .i64 0, .string ⟨#[]⟩, .int .i64 0]) 5 48 Try.underlying24 hi hz0 hz1 hz2 rfl (by decide) _ _ _ rfl W ⟨jv, 0, none⟩ 1 1 [.int .i64 x0, .int .i64 x1, .int .i64 x2, .string x3, .int .i64 x4] rfl rfl HF.out (five_one _ _ _ _ _) (by unfold maxLen; omega) (by omega) hsz ?_; intro v' wn hown' hgrow _; (have G := grown_belowF W hgrow hsz); clear n0 n1 n2 o0 o1 o2 o3 o4; (replace c0 := (G.cell (p := ⟨b, k * 5, none⟩) hbj).trans c0); (replace c1 := (G.cell (p := ⟨b, k * 5 + 1, none⟩) hbj).trans c1); (replace c2 := (G.cell (p := ⟨b, k * 5 + 2, none⟩) hbj).trans c2); (replace c3 := (G.cell (p := ⟨b, k * 5 + 3, none⟩) hbj).trans c3); (replace c4 := (G.cell (p := ⟨b, k * 5 + 4, none⟩) hbj).trans c4); (replace N := N.belowB G (by omega)); (replace O := O.belowB G (by omega)); (replace R1 := R1.belowB G (by omega)); (replace R2 := R2.belowB G (by omega)); (replace CS := CS.below G hbj); (replace B := B.trans (G.mono (by omega))); rw [HW.out] at hown'; (obtain ⟨a', c', rfl, _, _, _⟩ := ownF_src hown'); clear hgrow HF; (obtain ⟨n0, n1, n2⟩ := id N); (obtain ⟨o0, o1, o2, o3, o4⟩ := id O)
          refine hK.out _ _ ?_ (fun hHeld => ?_)
          · first | exact ⟨n2, c0, c1, c2, c3, c4⟩ | (simp (maxDischargeDepth := 6) [go_sem, *]; done)
          clear hK K
          (try simp only [Act.put, List.setIfInBounds_toArray, List.set_cons_zero, List.set_cons_succ])
          refine wpAnyH_take (i := 9) (v := ?_) (by rw [List.getElem?_toArray]; rfl) (by kernel_rfl) (by kernel_rfl) (by kernel_rfl) (by intro _ _ _ h; exact h) (Or.inl ⟨by rfl, ?_⟩) (by assumption) ?_
          rotate_left
          · (intro w hSw; (try dsimp only at hSw); go_simp; all_goals with_reducible rfl)
          (try simp only [Act.put, List.setIfInBounds_toArray, List.set_cons_zero, List.set_cons_succ])
          refine wpAnyH_ready (rs := [10]) (by kernel_rfl) (by simp) ?_
          refine (AllReadyH.cons (by rw [List.getElem?_toArray]; rfl) (fun K hK => ?_) AllReadyH.nil)
          go_simp
          refine hK.out _ _ ?_ (fun hHeld => ?_)
          · first | exact ⟨n2, c0, c1, c2, c3, c4⟩ | (simp (maxDischargeDepth := 6) [go_sem, *]; done)
          clear hK K
          (try simp only [Act.put, List.setIfInBounds_toArray, List.set_cons_zero, List.set_cons_succ])
          refine wpAnyH_done (by kernel_rfl) ?_ _
          go_wp2_with fail
          have PB := But.one wn jo 1 (.slice a' (q + 1) c')
          go_roundw
          case rel => exact ⟨k + 1, by omega, by go_num, _, O.set1 _, (by rw [HEN.out]; exact own_butF hown' PB (by omega)), N.but PB (by omega), R1.but PB (by omega), R2.but PB (by omega), CS.but PB (by omega), B.trans (PB.below (by omega) B.size)⟩
          case measure => simp [intOf]; omega
        · go_simp
          (have A := Below.nw v (.cells #[.int .i64 x0, .int .i64 x1, .int .i64 x2, .string x3, .int .i64 x4] 30)); (have hvz : jo + 1 ≤ v.heap.size := o0); (have HF : Hid (∀ j u, [Value.int .i64 x0, .int .i64 x1, .int .i64 x2, .string x3, .int .i64 x4][j]? = some u → (v.alloc (.cells #[.int .i64 x0, .int .i64 x1, .int .i64 x2, .string x3, .int .i64 x4] 30)).cell? ((⟨v.heap.size, 0, none⟩ : Addr).add j) = some u) := fun j u hu => five_at v x0 x1 x2 x3 x4 30 j u hu); clear n0 n1 n2 o0 o1 o2 o3 o4; (replace c0 := (A.cell (p := ⟨b, k * 5, none⟩) CS.1).trans c0); (replace c1 := (A.cell (p := ⟨b, k * 5 + 1, none⟩) CS.1).trans c1); (replace c2 := (A.cell (p := ⟨b, k * 5 + 2, none⟩) CS.1).trans c2); (replace c3 := (A.cell (p := ⟨b, k * 5 + 3, none⟩) CS.1).trans c3); (replace c4 := (A.cell (p := ⟨b, k * 5 + 4, none⟩) CS.1).trans c4); (replace N := N.below A); (replace O := O.below A); (replace R1 := R1.below A); (replace R2 := R2.below A); (replace W := World.ownsRow.alloc W (.cells #[.int .i64 x0, .int .i64 x1, .int .i64 x2, .string x3, .int .i64 x4] 30)); (replace CS := CS.below A CS.1); (replace B := B.trans (A.mono B.size)); (have hsz : jo + 1 ≤ (v.alloc (.cells #[.int .i64 x0, .int .i64 x1, .int .i64 x2, .string x3, .int .i64 x4] 30)).heap.size := Nat.le_trans hvz A.size); (have hcsz := CS.1); clear A; (generalize v.alloc (.cells #[.int .i64 x0, .int .i64 x1, .int .i64 x2, .string x3, .int .i64 x4] 30) = v2 at *); (generalize v.heap.size = jv at *); (obtain ⟨n0, n1, n2⟩ := id N); (obtain ⟨o0, o1, o2, o3, o4⟩ := id O)
          refine hK.out _ _ ?_ (fun hHeld => ?_)
          · first | exact ⟨n2, c0, c1, c2, c3, c4⟩ | (simp (maxDischargeDepth := 6) [go_sem, *]; done)
          clear hK K
          (try simp only [Act.put, List.setIfInBounds_toArray, List.set_cons_zero, List.set_cons_succ])
          refine wpAnyH_ready (rs := [1]) (by kernel_rfl) (by simp) ?_
          refine (AllReadyH.cons (by rw [List.getElem?_toArray]; rfl) (fun K hK => ?_) AllReadyH.nil)
          go_simp
          refine hK.out _ _ ?_ (fun hHeld => ?_)
          · first | exact ⟨n2, c0, c1, c2, c3, c4⟩ | (simp (maxDischargeDepth := 6) [go_sem, *]; done)
          clear hK K
          (try simp only [Act.put, List.setIfInBounds_toArray, List.set_cons_zero, List.set_cons_succ])
          refine wpAnyH_ready (rs := [8]) (by kernel_rfl) (by simp) ?_
          refine (AllReadyH.cons (by rw [List.getElem?_toArray]; rfl) (fun K hK => ?_) AllReadyH.nil)
          rw [if_pos (by rfl)]; refine wp_append_own _ _ _ 24 rfl (jo + 1) 30 i0 (.agg #[.int .i64 0, .int .i64 0, .int .i64 0, .string ⟨#[]⟩, .int .i64 0]) 5 48 Try.underlying24 hi hz0 hz1 hz2 rfl (by decide) _ _ _ rfl W ⟨jv, 0, none⟩ 1 1 [.int .i64 x0, .int .i64 x1, .int .i64 x2, .string x3, .int .i64 x4] rfl rfl HF.out (five_one _ _ _ _ _) (by unfold maxLen; omega) (by omega) hsz ?_; intro v' wn hown' hgrow _; (have G := grown_belowF W hgrow hsz); clear n0 n1 n2 o0 o1 o2 o3 o4; (replace c0 := (G.cell (p := ⟨b, k * 5, none⟩) hbj).trans c0); (replace c1 := (G.cell (p := ⟨b, k * 5 + 1, none⟩) hbj).trans c1); (replace c2 := (G.cell (p := ⟨b, k * 5 + 2, none⟩) hbj).trans c2); (replace c3 := (G.cell (p := ⟨b, k * 5 + 3, none⟩) hbj).trans c3); (replace c4 := (G.cell (p := ⟨b, k * 5 + 4, none⟩) hbj).trans c4); (replace N := N.belowB G (by omega)); (replace O := O.belowB G (by omega)); (replace R1 := R1.belowB G (by omega)); (replace R2 := R2.belowB G (by omega)); (replace CS := CS.below G hbj); (replace B := B.trans (G.mono (by omega))); rw [HW.out] at hown'; (obtain ⟨a', c', rfl, _, _, _⟩ := ownF_src hown'); clear hgrow HF; (obtain ⟨n0, n1, n2⟩ := id N); (obtain ⟨o0, o1, o2, o3, o4⟩ := id O)
          refine hK.out _ _ ?_ (fun hHeld => ?_)
          · first | exact ⟨n2, c0, c1, c2, c3, c4⟩ | (simp (maxDischargeDepth := 6) [go_sem, *]; done)
          clear hK K
          (try simp only [Act.put, List.setIfInBounds_toArray, List.set_cons_zero, List.set_cons_succ])
          refine wpAnyH_take (i := 9) (v := ?_) (by rw [List.getElem?_toArray]; rfl) (by kernel_rfl) (by kernel_rfl) (by kernel_rfl) (by intro _ _ _ h; exact h) (Or.inl ⟨by rfl, ?_⟩) (by assumption) ?_
          rotate_left
          · (intro w hSw; (try dsimp only at hSw); go_simp; all_goals with_reducible rfl)
          (try simp only [Act.put, List.setIfInBounds_toArray, List.set_cons_zero, List.set_cons_succ])
          refine wpAnyH_ready (rs := [10]) (by kernel_rfl) (by simp) ?_
          refine (AllReadyH.cons (by rw [List.getElem?_toArray]; rfl) (fun K hK => ?_) AllReadyH.nil)
          go_simp
          refine hK.out _ _ ?_ (fun hHeld => ?_)
          · first | exact ⟨n2, c0, c1, c2, c3, c4⟩ | (simp (maxDischargeDepth := 6) [go_sem, *]; done)
          clear hK K
          (try simp only [Act.put, List.setIfInBounds_toArray, List.set_cons_zero, List.set_cons_succ])
          refine wpAnyH_done (by kernel_rfl) ?_ _
          go_wp2_with fail
          have PB := But.one wn jo 1 (.slice a' (q + 1) c')
          go_roundw
          case rel => exact ⟨k + 1, by omega, by go_num, _, O.set1 _, (by rw [HEN.out]; exact own_butF hown' PB (by omega)), N.but PB (by omega), R1.but PB (by omega), R2.but PB (by omega), CS.but PB (by omega), B.trans (PB.below (by omega) B.size)⟩
          case measure => simp [intOf]; omega
    · have hkn : k = n := by omega
      subst hkn
      have hli : decide ((k : Int) < (k : Int)) = false := decide_eq_false (by omega)
      rw [ct_end hin] at W
      obtain ⟨a', c', rfl, _, _, _⟩ := ownF_src W
      obtain ⟨c0, c1, c2, c3, c4⟩ := CS.elFlight hin HY.out
      rw [Nat.zero_add] at c0 c1 c2 c3 c4
      obtain ⟨r0, r1, r2, r3, r4⟩ := id R1
      obtain ⟨f0, f1, f2, f3, f4, f5, f6, f7, f8, f9, f10⟩ := id R2
      have hli2 : (i : Int) < (k : Int) := by omega
      have PB1 := ((But.refl (w.heap.size + 1) wr).setCell 0 (.int .i64 nx)).setCell 1 (.slice a' (k - 1) c')
      have Z1 := R1.setB (.int .i64 nx) (.slice a' (k - 1) c')
      have Z2 := (R2.but PB1 (by omega)).set5 y0 y1 y2 y3 y4
      have W1 := own_butF W PB1 (by omega)
      have B1 := B.trans (PB1.below (by omega) B.size)
      have PB2 := put5z_but ((wr.setCell ⟨w.heap.size + 1, 0, none⟩ (.int .i64 nx)).setCell ⟨w.heap.size + 1, 1, none⟩ (.slice a' (k - 1) c')) (w.heap.size + 1 + 1) (.int .i64 y0) (.int .i64 y1) (.int .i64 y2) (.string y3) (.int .i64 y4)
      replace Z1 := Z1.but PB2 (by omega)
      have SD := ownB_le (base' := w.heap.size) (own_butF W1 PB2 (by omega)) (by omega)
      have BD := B1.trans (PB2.below (B := w.heap.size) (by omega) B1.size)
      unfold put5z at Z1 Z2 SD BD
      have KZ : Hid (World.ownsRow _ _ _ _ _ _ _ ∧ Below _ _ _) := ⟨SD, BD⟩
      clear SD BD PB1 PB2 W1 B1
      go_wp2_with fail
      go_region
      clear n0 n1 n2 o0 o1 o2 o3 o4 c0 c1 c2 c3 c4 r0 r1 r2 r3 r4 f0 f1 f2 f3 f4 f5 f6 f7 f8 f9 f10 O W N R1 R2 CS B
      generalize ((((((wr.setCell ⟨w.heap.size + 1, 0, none⟩ (.int .i64 nx)).setCell ⟨w.heap.size + 1, 1, none⟩ (.slice a' (k - 1) c')).setCell ⟨w.heap.size + 1 + 1, 0, none⟩ (.int .i64 y0)).setCell ⟨w.heap.size + 1 + 1, 1, none⟩ (.int .i64 y1)).setCell ⟨w.heap.size + 1 + 1, 2, none⟩ (.int .i64 y2)).setCell ⟨w.heap.size + 1 + 1, 3, none⟩ (.string y3)).setCell ⟨w.heap.size + 1 + 1, 4, none⟩ (.int .i64 y4) = wz at *
      obtain ⟨r0, r1, r2, r3, r4⟩ := id Z1
      obtain ⟨f0, f1, f2, f3, f4, f5, f6, f7, f8, f9, f10⟩ := id Z2
      clear Z1 Z2
      go_wp2_with fail
      exact bodyPost_ret (v := .tuple #[.agg #[.int .i64 nx, .slice a' (k - 1) c'], .agg #[.int .i64 y0, .int .i64 y1, .int .i64 y2, .string y3, .int .i64 y4], .int .i64 0]) (by simp (maxDischargeDepth := 6) [results, Try.results7, go_sem, *]) rfl ⟨a', c', rfl, World.ownsRow.drew KZ.out.1, Below.drew KZ.out.2⟩
end Go.Proofs.Ytfdcjfebfbpliaa
