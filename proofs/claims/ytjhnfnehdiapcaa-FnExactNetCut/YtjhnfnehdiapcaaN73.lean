/- The contract of spec.NetMove. -/
import Derived.Test.YtjhnfnehdiapcaaN72
import Derived.Test.YtjhnfnehdiapcaaN68
import Derived.Laws.AppendOwnNone
import Derived.WalkKit
import Derived.WalkSpells
import Derived.WalkLawsBesides
import Derived.Deep.RegionHeld
namespace Go.Proofs.Ytjhnfnehdiapcaa
open Go.RowKit
set_option linter.unusedVariables false
theorem frow_congr {G H : Nat → FT} {m : Nat} (h : ∀ k, k < m → G k = H k) : frow G m = frow H m := by
  unfold frow
  apply List.map_congr_left
  intro j hj
  have hj' : j < m * 5 := List.mem_range.1 hj
  unfold MFFlight
  rw [h (j / 5) (by omega)]
theorem frow_ins1 {G : Nat → FT} {t : Nat} {x0 x1 x2 : Int} {x3 : ByteArray} {x4 : Int} (f : FT) (hf : f = (x0, x1, x2, x3, x4)) : frow G t ++ [.int .i64 x0, .int .i64 x1, .int .i64 x2, .string x3, .int .i64 x4] = frow (insG G t f) (t + 1) := by
  rw [frow_congr (G := G) (H := insG G t f) (fun k hk => by unfold insG; rw [if_pos hk])]
  exact frow_add ((insG_at G t f).trans hf)
def part (G : Nat → FT) (t m : Nat) : List Value := (List.range (m * 5)).map fun k => MFFlight G (t * 5 + k)
theorem part_len (G : Nat → FT) (t m : Nat) : (part G t m).length = m * 5 := by simp [part]
theorem part_get {G : Nat → FT} {t m k : Nat} {v : Value} (h : (part G t m)[k]? = some v) : k < m * 5 ∧ v = MFFlight G (t * 5 + k) := by
  have hk : k < (part G t m).length := (List.getElem?_eq_some_iff.1 h).1
  rw [part_len] at hk
  refine ⟨hk, ?_⟩
  simp [part, hk] at h
  exact h.symm
theorem part_one (G : Nat → FT) (t m : Nat) : ∀ v ∈ part G t m, v.oneCell' = true := by
  intro v hv
  simp only [part, List.mem_map] at hv
  obtain ⟨j, _, rfl⟩ := hv
  unfold MFFlight MCFlight
  split <;> rfl
theorem frow_part {G : Nat → FT} {t m : Nat} {f : FT} : frow (insG G t f) (t + 1) ++ part G t m = frow (insG G t f) (t + 1 + m) := by
  have e : part G t m = (List.range (m * 5)).map fun k => MFFlight (insG G t f) ((t + 1) * 5 + k) := by
    unfold part
    apply List.map_congr_left
    intro k hk
    unfold MFFlight
    rw [show (t * 5 + k) / 5 = t + k / 5 by omega, show ((t + 1) * 5 + k) / 5 = t + 1 + k / 5 by omega, show (t * 5 + k) % 5 = k % 5 by omega, show ((t + 1) * 5 + k) % 5 = k % 5 by omega]
    have : insG G t f (t + 1 + k / 5) = G (t + k / 5) := by
      unfold insG
      rw [if_neg (by omega), if_neg (by omega)]
      congr 1
      omega
    rw [this]
  have r : List.range ((t + 1 + m) * 5) = List.range ((t + 1) * 5) ++ (List.range (m * 5)).map fun x => (t + 1) * 5 + x := by
    rw [Nat.add_mul (t + 1) m 5, List.range_add]
  rw [e]
  unfold frow
  rw [r, List.map_append, List.map_map]
  rfl
set_option maxHeartbeats 4000000 in
theorem specNetMove_take (nx i t : Int) (b n c : Nat) (M : Nat → FT) (X : Int) (m : Nat) (G : Nat → FT) (y0 y1 y2 : Int) (y3 : ByteArray) (y4 : Int) (C : Int) (w : World) (hm : n ≤ maxLen) (hf : Cs w b 0 (n * 5) (MFFlight M)) (hs : ∀ i, i < n → ((M i).2.2.2.1).size ≤ maxLen) (h : TkIs nx M n i X m G (y0, y1, y2, y3, y4) C) (hC : ¬ C = 0) :
    Calls Try.prog 31 #[.agg #[.int .i64 nx, .slice (some ⟨b, 0, none⟩) n c], .int .i64 i, .int .i64 t] w fun e w' => ∃ a' c', e = .returned (.tuple #[.agg #[.int .i64 X, .slice a' m c'], .int .i64 C]) ∧ w'.ownsRow w.heap.size 30 5 (.slice a' m c') m (frow G m) ∧ Below w.heap.size w w' := by
  have A1 := Below.nw w (.cells #[.int .i64 nx, .slice (some ⟨b, 0, none⟩) n c] 26)
  have B := A1.alloc A1.size (.cells #[.int .i64 0, .slice none 0 0] 26)
  have R := B2.new (w.alloc (.cells #[.int .i64 nx, .slice (some ⟨b, 0, none⟩) n c] 26)) (.int .i64 0) (.slice none 0 0) 26
  have CS := hf.below B hf.1
  have CT := specNetTake_any nx i b n c M X m G y0 y1 y2 y3 y4 C _ hm CS hs h
  simp only [World.size_alloc] at R
  have hS : w.heap.size + 1 < ((w.alloc (.cells #[.int .i64 nx, .slice (some ⟨b, 0, none⟩) n c] 26)).alloc (.cells #[.int .i64 0, .slice none 0 0] 26)).heap.size := by simp
  clear hf hs h A1 CS
  go_enter Try.func31, Try.ntmps31
  go_wp2_with fail
  refine CT.mono ?_
  rintro e v ⟨a', c', rfl, S0, hb⟩
  replace B := B.trans (hb.mono B.size)
  replace R := R.below hb
  clear hb CT
  have A2 := Below.nw v (.cells #[.int .i64 X, .slice a' m c'] 26)
  have A3 := Below.nw (v.alloc (.cells #[.int .i64 X, .slice a' m c'] 26)) (.cells #[.int .i64 y0, .int .i64 y1, .int .i64 y2, .string y3, .int .i64 y4] 30)
  have hv := R.1
  replace R := (R.below A2).below A3
  replace S0 := own_belowF (own_belowF S0 A2) A3
  have K := (NB.new v X a' m c' 26).below A3
  replace B := (B.trans (A2.mono B.size)).trans (A3.mono (B.trans (A2.mono B.size)).size)
  clear A2 A3
  obtain ⟨r0, r1, r2, r3, r4⟩ := id R
  obtain ⟨k0, k1, k2⟩ := id K
  go_wp2_with fail
  generalize (v.alloc (.cells #[.int .i64 X, .slice a' m c'] 26)).alloc (.cells #[.int .i64 y0, .int .i64 y1, .int .i64 y2, .string y3, .int .i64 y4] 30) = v2 at *
  have PB := ((But.refl (w.heap.size + 1) v2).setCell 0 (.int .i64 X)).setCell 1 (.slice a' m c')
  exact bodyPost_ret (v := .tuple #[.agg #[.int .i64 X, .slice a' m c'], .int .i64 C]) (by simp (maxDischargeDepth := 6) [results, Try.results31, go_sem, *]) rfl ⟨a', c', rfl, ownB_le (own_butF S0 PB hS) (by simp; omega), B.trans (PB.below (by omega) B.size)⟩
set_option maxHeartbeats 4000000 in
theorem specNetMove_none (nx i t : Int) (b n c : Nat) (M : Nat → FT) (X : Int) (m : Nat) (G : Nat → FT) (y0 y1 y2 : Int) (y3 : ByteArray) (y4 : Int) (w : World) (hm : n ≤ maxLen) (hn40 : n ≤ 40) (hf : Cs w b 0 (n * 5) (MFFlight M)) (hs : ∀ i, i < n → ((M i).2.2.2.1).size ≤ maxLen) (h : TkIs nx M n i X m G (y0, y1, y2, y3, y4) 0) (ht : ¬ (0 ≤ t ∧ t < (n : Int))) :
    Calls Try.prog 31 #[.agg #[.int .i64 nx, .slice (some ⟨b, 0, none⟩) n c], .int .i64 i, .int .i64 t] w fun e w' => ∃ a' c', e = .returned (.tuple #[.agg #[.int .i64 nx, .slice a' n c'], .int .i64 2]) ∧ w'.ownsRow w.heap.size 30 5 (.slice a' n c') n (frow M n) ∧ Below w.heap.size w w' := by
  have A1 := Below.nw w (.cells #[.int .i64 nx, .slice (some ⟨b, 0, none⟩) n c] 26)
  have B := A1.alloc A1.size (.cells #[.int .i64 0, .slice none 0 0] 26)
  have N := (NB.new w nx (some ⟨b, 0, none⟩) n c 26).below (Below.nw _ (.cells #[.int .i64 0, .slice none 0 0] 26))
  have R := B2.new (w.alloc (.cells #[.int .i64 nx, .slice (some ⟨b, 0, none⟩) n c] 26)) (.int .i64 0) (.slice none 0 0) 26
  have CS := hf.below B hf.1
  have CT := specNetTake_any nx i b n c M X m G y0 y1 y2 y3 y4 0 _ hm CS hs h
  simp only [World.size_alloc] at R
  clear hf hs h A1
  go_enter Try.func31, Try.ntmps31
  go_wp2_with fail
  refine CT.mono ?_
  rintro e v ⟨a', c', rfl, S0, hb⟩
  replace B := B.trans (hb.mono B.size)
  replace R := R.below hb
  replace N := N.below hb
  replace CS := CS.below hb CS.1
  clear hb CT S0
  have A2 := Below.nw v (.cells #[.int .i64 X, .slice a' m c'] 26)
  have A3 := Below.nw (v.alloc (.cells #[.int .i64 X, .slice a' m c'] 26)) (.cells #[.int .i64 y0, .int .i64 y1, .int .i64 y2, .string y3, .int .i64 y4] 30)
  replace R := (R.below A2).below A3
  replace N := (N.below A2).below A3
  replace CS := (CS.below A2 CS.1).below A3 (CS.below A2 CS.1).1
  replace B := (B.trans (A2.mono B.size)).trans (A3.mono (B.trans (A2.mono B.size)).size)
  clear A2 A3
  obtain ⟨n0, n1, n2⟩ := id N
  by_cases ht0 : t < 0
  · have d1 : decide (t < 0) = true := decide_eq_true ht0
    go_wp2_with fail
    generalize (v.alloc (.cells #[.int .i64 X, .slice a' m c'] 26)).alloc (.cells #[.int .i64 y0, .int .i64 y1, .int .i64 y2, .string y3, .int .i64 y4] 30) = v2 at *
    have hv := R.1
    refine (l5Copy_any nx b n c M _ hn40 CS).mono ?_
    rintro e v3 ⟨a2, c2, rfl, O2, hb⟩
    replace B := B.trans (hb.mono B.size)
    obtain ⟨r0, r1, r2, r3, r4⟩ := R.below hb
    clear hb R N n0 n1 n2 CS
    go_wp2_with fail
    have PB := ((But.refl (w.heap.size + 1) v3).setCell 0 (.int .i64 nx)).setCell 1 (.slice a2 n c2)
    exact bodyPost_ret (v := .tuple #[.agg #[.int .i64 nx, .slice a2 n c2], .int .i64 2]) (by simp (maxDischargeDepth := 6) [results, Try.results31, go_sem, *]) rfl ⟨a2, c2, rfl, ownB_le (own_butF O2 PB (by omega)) (by omega), B.trans (PB.below (by omega) B.size)⟩
  · have d1 : decide (t < 0) = false := decide_eq_false ht0
    have d2 : decide ((n : Int) ≤ t) = true := decide_eq_true (by omega)
    go_wp2_with fail
    generalize (v.alloc (.cells #[.int .i64 X, .slice a' m c'] 26)).alloc (.cells #[.int .i64 y0, .int .i64 y1, .int .i64 y2, .string y3, .int .i64 y4] 30) = v2 at *
    have hv := R.1
    refine (l5Copy_any nx b n c M _ hn40 CS).mono ?_
    rintro e v3 ⟨a2, c2, rfl, O2, hb⟩
    replace B := B.trans (hb.mono B.size)
    obtain ⟨r0, r1, r2, r3, r4⟩ := R.below hb
    clear hb R N n0 n1 n2 CS
    go_wp2_with fail
    have PB := ((But.refl (w.heap.size + 1) v3).setCell 0 (.int .i64 nx)).setCell 1 (.slice a2 n c2)
    exact bodyPost_ret (v := .tuple #[.agg #[.int .i64 nx, .slice a2 n c2], .int .i64 2]) (by simp (maxDischargeDepth := 6) [results, Try.results31, go_sem, *]) rfl ⟨a2, c2, rfl, ownB_le (own_butF O2 PB (by omega)) (by omega), B.trans (PB.below (by omega) B.size)⟩
set_option maxRecDepth 100000 in
set_option maxHeartbeats 4000000 in
theorem specNetMove_done (nx : Int) (i t b n c : Nat) (M : Nat → FT) (y0 y1 y2 : Int) (y3 : ByteArray) (y4 : Int) (Y : FT) (w : World) (hm : n ≤ maxLen) (hf : Cs w b 0 (n * 5) (MFFlight M)) (hs : ∀ i, i < n → ((M i).2.2.2.1).size ≤ maxLen) (h : netB nx M n = true) (hin : i < n) (htn : t < n) (hY : M i = (y0, y1, y2, y3, y4)) (hYt : Y = (y0, y1, y2, y3, y4)) :
    Calls Try.prog 31 #[.agg #[.int .i64 nx, .slice (some ⟨b, 0, none⟩) n c], .int .i64 (i : Int), .int .i64 (t : Int)] w fun e w' => ∃ a' c', e = .returned (.tuple #[.agg #[.int .i64 nx, .slice a' (t + 1 + (n - 1 - t)) c'], .int .i64 0]) ∧ w'.ownsRow w.heap.size 30 5 (.slice a' (t + 1 + (n - 1 - t)) c') (t + 1 + (n - 1 - t)) (frow (insG (cutG M i) t Y) (t + 1 + (n - 1 - t))) ∧ Below w.heap.size w w' := by
  have hn40 := netB_n h
  have HYt : Hid (Y = (y0, y1, y2, y3, y4)) := hYt
  clear hYt
  obtain ⟨i0, hi, hz0, hz1, hz2⟩ := infoF_parts
  have A1 := Below.nw w (.cells #[.int .i64 nx, .slice (some ⟨b, 0, none⟩) n c] 26)
  have B := A1.alloc A1.size (.cells #[.int .i64 0, .slice none 0 0] 26)
  have N := (NB.new w nx (some ⟨b, 0, none⟩) n c 26).below (Below.nw _ (.cells #[.int .i64 0, .slice none 0 0] 26))
  have R := B2.new (w.alloc (.cells #[.int .i64 nx, .slice (some ⟨b, 0, none⟩) n c] 26)) (.int .i64 0) (.slice none 0 0) 26
  have CS := hf.below B hf.1
  have CT := specNetTake_any nx (i : Int) b n c M nx (n - 1) (cutG M i) y0 y1 y2 y3 y4 0 _ hm CS hs (.inr (.inr ⟨h, i, rfl, hin, rfl, rfl, rfl, hY.symm, rfl⟩))
  simp only [World.size_alloc] at R
  clear hf hs h A1 CS hY
  go_enter Try.func31, Try.ntmps31
  go_wp2_with fail
  refine CT.mono ?_
  rintro e v ⟨a', c', rfl, S0, hb⟩
  replace B := B.trans (hb.mono B.size)
  replace R := R.below hb
  replace N := N.below hb
  clear hb CT
  have hlb := fun g hg => (World.ownsRow.lt S0 g hg)
  have A2 := Below.nw v (.cells #[.int .i64 nx, .slice a' (n - 1) c'] 26)
  have A3 := Below.nw (v.alloc (.cells #[.int .i64 nx, .slice a' (n - 1) c'] 26)) (.cells #[.int .i64 y0, .int .i64 y1, .int .i64 y2, .string y3, .int .i64 y4] 30)
  have hv := R.1
  replace R := (R.below A2).below A3
  replace N := (N.below A2).below A3
  replace S0 := own_belowF (own_belowF S0 A2) A3
  have K := (B2.new v (.int .i64 nx) (.slice a' (n - 1) c') 26).below A3
  have P := F5.new (v.alloc (.cells #[.int .i64 nx, .slice a' (n - 1) c'] 26)) y0 y1 y2 y3 y4 30
  simp only [World.size_alloc] at P
  replace B := (B.trans (A2.mono B.size)).trans (A3.mono (B.trans (A2.mono B.size)).size)
  clear A2 A3
  have d1 : decide ((t : Int) < 0) = false := decide_eq_false (by omega)
  have d2 : decide ((n : Int) ≤ (t : Int)) = false := decide_eq_false (by omega)
  have d3 : decide (n ≤ t) = false := decide_eq_false (by omega)
  obtain ⟨n0, n1, n2⟩ := id N
  go_upto_region 6 with fail
  generalize v.heap.size = jk at *
  generalize (v.alloc (.cells #[.int .i64 nx, .slice a' (n - 1) c'] 26)).alloc (.cells #[.int .i64 y0, .int .i64 y1, .int .i64 y2, .string y3, .int .i64 y4] 30) = v2 at *
  clear d1 d2 d3 n0 n1 n2 N
  have hP := P.1
  rcases id S0.2 with ⟨hv0, h0⟩ | ⟨g, cap, cur, hv0, hbg, hgc, hcap, hcm, hsz, htk⟩
  · injection hv0 with e1 e2 e3
    have hn1 : n = 1 := by omega
    subst hn1
    have ht0 : t = 0 := by omega
    subst ht0
    subst e1 e3
    have K' : B2 v2 jk (.int .i64 nx) (.slice none 0 0) := K
    clear K S0 hlb e2 h0
    have hpz : jk + 2 ≤ v2.heap.size := hP
    have own0 := World.ownsRow_made (base := jk + 2) (size := 5) (e := 30) v2 #[] 0 hpz (by simp [maxLen]) (by simp)
    have A4 := Below.nw v2 (.cells #[] 30)
    have hs4 : jk + 2 ≤ (v2.alloc (.cells #[] 30)).heap.size := Nat.le_trans hpz A4.size
    have R5 := R.below A4
    have K5 := K'.below A4
    have P5 := P.below A4
    have B5 := B.trans (A4.mono B.size)
    obtain ⟨k0, k1, k2, k3, k4⟩ := id K'
    clear A4
    go_upto_region 7 with (at_builtin; refine wpList_append_own_none rfl _ _ 24 rfl (jk + 2) 30 i0 5 Try.underlying24 hi _ 0 _ rfl own0 rfl ?_)
    clear k0 k1 k2 k3 k4 R K' P B
    generalize hwn : v2.alloc (.cells #[] 30) = wn at *
    generalize v2.heap.size = jm at *
    have own1 := World.ownsRow.alloc own0 (.cells #[.int .i64 y0, .int .i64 y1, .int .i64 y2, .string y3, .int .i64 y4] 30)
    have A6 := Below.nw wn (.cells #[.int .i64 y0, .int .i64 y1, .int .i64 y2, .string y3, .int .i64 y4] 30)
    have HN2 : Hid (∀ j u, [Value.int .i64 y0, .int .i64 y1, .int .i64 y2, .string y3, .int .i64 y4][j]? = some u → (wn.alloc (.cells #[.int .i64 y0, .int .i64 y1, .int .i64 y2, .string y3, .int .i64 y4] 30)).cell? ((⟨wn.heap.size, 0, none⟩ : Addr).add j) = some u) := fun j u hu => five_at wn y0 y1 y2 y3 y4 30 j u hu
    have hs6 : jk + 2 ≤ (wn.alloc (.cells #[.int .i64 y0, .int .i64 y1, .int .i64 y2, .string y3, .int .i64 y4] 30)).heap.size := Nat.le_trans hs4 A6.size
    have R6 := R5.below A6
    have K6 := K5.below A6
    have B6 := B5.trans (A6.mono B5.size)
    obtain ⟨p0, p1, p2, p3, p4, p5, p6, p7, p8, p9, p10⟩ := id P5
    clear A6
    go_upto_region 8 with (at_builtin; refine wpList_append_own _ rfl _ _ 24 rfl (jk + 2) 30 i0 (.agg #[.int .i64 0, .int .i64 0, .int .i64 0, .string ⟨#[]⟩, .int .i64 0]) 5 48 Try.underlying24 hi hz0 hz1 hz2 rfl (by decide) _ _ _ rfl own1 ⟨wn.heap.size, 0, none⟩ 1 1 [.int .i64 y0, .int .i64 y1, .int .i64 y2, .string y3, .int .i64 y4] rfl rfl HN2.out (five_one _ _ _ _ _) (by unfold maxLen; omega) (by omega) hs6 ?_; intro vp wp hown2 hgrow _)
    have G6 := grown_belowF own1 hgrow hs6
    have hown3 : wp.ownsRow (jk + 2) 30 5 vp 1 (frow (insG (cutG M i) 0 Y) 1) := by
      have q := frow_ins1 (G := cutG M i) (t := 0) Y HYt.out
      rw [← q]
      exact hown2
    have R7 := R6.belowB G6 (by omega)
    have K7 := K6.belowB G6 (by omega)
    have B7 := B6.trans (G6.mono (by omega))
    have hs7 : jk + 2 ≤ wp.heap.size := Nat.le_trans hs6 G6.size
    clear p0 p1 p2 p3 p4 p5 p6 p7 p8 p9 p10 hgrow G6 own1 R6 K6 B6 HN2 R5 K5 P5 B5 hs6 hown2
    obtain ⟨k0, k1, k2, k3, k4⟩ := id K7
    obtain ⟨r0, r1, r2, r3, r4⟩ := id R7
    obtain ⟨a3, c3, rfl, _, _, _⟩ := ownF_src hown3
    go_upto_region 9 with (at_builtin; refine wpList_append_own_none rfl _ _ 24 rfl (jk + 2) 30 i0 5 Try.underlying24 hi _ 1 _ rfl hown3 rfl ?_)
    go_wp2_with fail
    have PK := But.one wp jk 1 (.slice a3 1 c3)
    have PR := ((But.refl (w.heap.size + 1) (wp.setCell ⟨jk, 1, none⟩ (.slice a3 1 c3))).setCell 0 (.int .i64 nx)).setCell 1 (.slice a3 1 c3)
    have B9 := (B7.trans (PK.below (by omega) B7.size))
    exact bodyPost_ret (v := .tuple #[.agg #[.int .i64 nx, .slice a3 1 c3], .int .i64 0]) (by simp (maxDischargeDepth := 6) [results, Try.results31, go_sem, *]) rfl ⟨a3, c3, rfl, ownB_le (own_butF (own_butF hown3 PK (by omega)) PR (by omega)) (by omega), B9.trans (PR.below (by omega) B9.size)⟩
  · injection hv0 with e1 e2 e3
    subst e1 e3
    clear hgc hsz htk
    have hg2 := (hlb g rfl)
    obtain ⟨a2, c2, e2, _, _, S1⟩ := ownF_src S0
    injection e2 with e2 e3 e4
    subst e2 e4
    have CSg : Cs v2 g 0 ((n - 1) * 5) (MFFlight (cutG M i)) := by
      rcases S1 with h | ⟨b', off', hq, hc⟩
      · exact ⟨World.ownsRow.lt S0 g rfl |>.2, fun j hj => absurd hj (by omega)⟩
      · injection hq with hq
        injection hq with h1 h2
        subst h1 h2
        exact hc
    clear S1
    have hpz : jk + 2 ≤ v2.heap.size := hP
    have own0 := World.ownsRow_made (base := jk + 2) (size := 5) (e := 30) v2 #[] 0 hpz (by simp [maxLen]) (by simp)
    have A4 := Below.nw v2 (.cells #[] 30)
    have C4 := CSg.below A4 CSg.1
    have hs4 : jk + 2 ≤ (v2.alloc (.cells #[] 30)).heap.size := Nat.le_trans hpz A4.size
    have R4 := R.below A4
    have K4 := K.below A4
    have P4 := P.below A4
    have B4 := B.trans (A4.mono B.size)
    have HN1 : Hid (∀ j u, (frow (cutG M i) t)[j]? = some u → (v2.alloc (.cells #[] 30)).cell? ((⟨g, 0, none⟩ : Addr).add j) = some u) := by
      intro j u hu
      obtain ⟨hj, rfl⟩ := frow_get hu
      have h := C4.2 j (by omega)
      rw [Nat.zero_add] at h
      unfold Addr.add
      split
      · next e => subst e; exact h
      · rw [Nat.zero_add]; exact h
    have hli : (t : Int) ≤ (c' : Int) := by omega
    have hli' : t ≤ c' := by omega
    obtain ⟨k0, k1, k2, k3, k4⟩ := id K
    clear A4 CSg
    go_upto_region 7 with (at_builtin; refine wpList_append_own _ rfl _ _ 24 rfl (jk + 2) 30 i0 (.agg #[.int .i64 0, .int .i64 0, .int .i64 0, .string ⟨#[]⟩, .int .i64 0]) 5 48 Try.underlying24 hi hz0 hz1 hz2 rfl (by decide) _ _ _ rfl own0 ⟨g, 0, none⟩ t c' (frow (cutG M i) t) rfl (frow_len _ _) HN1.out (frow_one _ _) (by unfold maxLen; omega) (by omega) hs4 ?_; intro v' wn hown' hgrow _)
    have G4 := grown_belowF own0 hgrow hs4
    rw [Nat.zero_add, List.nil_append] at hown'
    have R5 := R4.belowB G4 (by omega)
    have K5 := K4.belowB G4 (by omega)
    have P5 := P4.belowB G4 (by omega)
    have C5' := C4.below G4 (by omega)
    have B5 := B4.trans (G4.mono (by omega))
    have hs5 : jk + 2 ≤ wn.heap.size := Nat.le_trans hs4 G4.size
    clear k0 k1 k2 k3 k4 hgrow G4 own0 R4 K4 P4 C4 B4 HN1 R K P B S0 hs4
    have own1 := World.ownsRow.alloc hown' (.cells #[.int .i64 y0, .int .i64 y1, .int .i64 y2, .string y3, .int .i64 y4] 30)
    have A6 := Below.nw wn (.cells #[.int .i64 y0, .int .i64 y1, .int .i64 y2, .string y3, .int .i64 y4] 30)
    have HN2 : Hid (∀ j u, [Value.int .i64 y0, .int .i64 y1, .int .i64 y2, .string y3, .int .i64 y4][j]? = some u → (wn.alloc (.cells #[.int .i64 y0, .int .i64 y1, .int .i64 y2, .string y3, .int .i64 y4] 30)).cell? ((⟨wn.heap.size, 0, none⟩ : Addr).add j) = some u) := fun j u hu => five_at wn y0 y1 y2 y3 y4 30 j u hu
    have hs6 : jk + 2 ≤ (wn.alloc (.cells #[.int .i64 y0, .int .i64 y1, .int .i64 y2, .string y3, .int .i64 y4] 30)).heap.size := Nat.le_trans hs5 A6.size
    have R6 := R5.below A6
    have K6 := K5.below A6
    have C6 := C5'.below A6 C5'.1
    have B6 := B5.trans (A6.mono B5.size)
    obtain ⟨p0, p1, p2, p3, p4, p5, p6, p7, p8, p9, p10⟩ := id P5
    clear A6
    go_upto_region 8 with (at_builtin; refine wpList_append_own _ rfl _ _ 24 rfl (jk + 2) 30 i0 (.agg #[.int .i64 0, .int .i64 0, .int .i64 0, .string ⟨#[]⟩, .int .i64 0]) 5 48 Try.underlying24 hi hz0 hz1 hz2 rfl (by decide) _ _ _ rfl own1 ⟨wn.heap.size, 0, none⟩ 1 1 [.int .i64 y0, .int .i64 y1, .int .i64 y2, .string y3, .int .i64 y4] rfl rfl HN2.out (five_one _ _ _ _ _) (by unfold maxLen; omega) (by omega) hs6 ?_; intro vp wp hown2 hgrow _)
    have G6 := grown_belowF own1 hgrow hs6
    rw [frow_ins1 Y HYt.out] at hown2
    have R7 := R6.belowB G6 (by omega)
    have K7 := K6.belowB G6 (by omega)
    have C7 := C6.below G6 (by omega)
    have B7 := B6.trans (G6.mono (by omega))
    have hs7 : jk + 2 ≤ wp.heap.size := Nat.le_trans hs6 G6.size
    have O2 := hown2
    clear p0 p1 p2 p3 p4 p5 p6 p7 p8 p9 p10 hgrow G6 own1 R6 K6 C6 B6 HN2 R5 K5 P5 C5' B5 hs6 hs5 hown' hown2
    have hC7 := C7.1
    have HN3 : Hid (∀ j u, (part (cutG M i) t (n - 1 - t))[j]? = some u → wp.cell? ((⟨g, t * 5, none⟩ : Addr).add j) = some u) := by
      intro j u hu
      obtain ⟨hj, rfl⟩ := part_get hu
      have h := C7.2 (t * 5 + j) (by omega)
      rw [Nat.zero_add] at h
      unfold Addr.add
      split
      · next e => subst e; exact h
      · exact h
    obtain ⟨k0, k1, k2, k3, k4⟩ := id K7
    by_cases hlast : t + 1 = n
    · by_cases hct : c' = t
      · have hl4 : t ≤ n - 1 := by omega
        have hct' : t = c' := hct.symm
        subst hct'
        go_upto_region 9 with (at_builtin; refine wpList_append_own _ rfl _ _ 24 rfl (jk + 2) 30 i0 (.agg #[.int .i64 0, .int .i64 0, .int .i64 0, .string ⟨#[]⟩, .int .i64 0]) 5 48 Try.underlying24 hi hz0 hz1 hz2 rfl (by decide) _ _ _ rfl O2 ⟨g, 0, none⟩ 0 0 [] rfl rfl (fun j u hu => by simp at hu) (by simp) (by unfold maxLen; omega) (by omega) hs7 ?_; intro vq wq hown2 hgrow _; (have hown3 : wq.ownsRow (jk + 2) 30 5 vq n (frow (insG (cutG M i) t Y) n) := (by have q := hown2; rw [List.append_nil] at q; rw [← hlast]; exact q)); (obtain ⟨a3, c3, rfl, _, _, _⟩ := ownF_src hown3); (have G7 := grown_belowF O2 hgrow hs7); (have R8 := R7.belowB G7 (by omega)); (have K8 := K7.belowB G7 (by omega)); (have B8 := B7.trans (G7.mono (by omega))); (obtain ⟨r0, r1, r2, r3, r4⟩ := id R8); clear k0 k1 k2 k3 k4; (obtain ⟨k0, k1, k2, k3, k4⟩ := id K8); clear hown2 hgrow)
        go_wp2_with fail
        have PK := But.one wq jk 1 (.slice a3 n c3)
        have PR := ((But.refl (w.heap.size + 1) (wq.setCell ⟨jk, 1, none⟩ (.slice a3 n c3))).setCell 0 (.int .i64 nx)).setCell 1 (.slice a3 n c3)
        have B9 := (B8.trans (PK.below (by omega) B8.size))
        exact bodyPost_ret (v := .tuple #[.agg #[.int .i64 nx, .slice a3 n c3], .int .i64 0]) (by simp (maxDischargeDepth := 6) [results, Try.results31, go_sem, *]) rfl ⟨a3, c3, rfl, ownB_le (own_butF (own_butF hown3 PK (by omega)) PR (by omega)) (by omega), B9.trans (PR.below (by omega) B9.size)⟩
      · have hl4 : t ≤ n - 1 := by omega
        have hl3 : ¬ c' = t := hct
        go_upto_region 9 with (at_builtin; refine wpList_append_own _ rfl _ _ 24 rfl (jk + 2) 30 i0 (.agg #[.int .i64 0, .int .i64 0, .int .i64 0, .string ⟨#[]⟩, .int .i64 0]) 5 48 Try.underlying24 hi hz0 hz1 hz2 rfl (by decide) _ _ _ rfl O2 ⟨g, t * 5, none⟩ 0 (c' - t) [] rfl rfl (fun j u hu => by simp at hu) (by simp) (by unfold maxLen; omega) (by omega) hs7 ?_; intro vq wq hown2 hgrow _; (have hown3 : wq.ownsRow (jk + 2) 30 5 vq n (frow (insG (cutG M i) t Y) n) := (by have q := hown2; rw [List.append_nil] at q; rw [← hlast]; exact q)); (obtain ⟨a3, c3, rfl, _, _, _⟩ := ownF_src hown3); (have G7 := grown_belowF O2 hgrow hs7); (have R8 := R7.belowB G7 (by omega)); (have K8 := K7.belowB G7 (by omega)); (have B8 := B7.trans (G7.mono (by omega))); (obtain ⟨r0, r1, r2, r3, r4⟩ := id R8); clear k0 k1 k2 k3 k4; (obtain ⟨k0, k1, k2, k3, k4⟩ := id K8); clear hown2 hgrow)
        go_wp2_with fail
        have PK := But.one wq jk 1 (.slice a3 n c3)
        have PR := ((But.refl (w.heap.size + 1) (wq.setCell ⟨jk, 1, none⟩ (.slice a3 n c3))).setCell 0 (.int .i64 nx)).setCell 1 (.slice a3 n c3)
        have B9 := (B8.trans (PK.below (by omega) B8.size))
        exact bodyPost_ret (v := .tuple #[.agg #[.int .i64 nx, .slice a3 n c3], .int .i64 0]) (by simp (maxDischargeDepth := 6) [results, Try.results31, go_sem, *]) rfl ⟨a3, c3, rfl, ownB_le (own_butF (own_butF hown3 PK (by omega)) PR (by omega)) (by omega), B9.trans (PR.below (by omega) B9.size)⟩
    · have hl1 : (t : Int) < ((n - 1 : Nat) : Int) := by omega
      have hl2 : t < n - 1 := by omega
      have hl3 : ¬ c' = t := by omega
      have hl4 : t ≤ n - 1 := by omega
      go_upto_region 9 with (at_builtin; refine wpList_append_own _ rfl _ _ 24 rfl (jk + 2) 30 i0 (.agg #[.int .i64 0, .int .i64 0, .int .i64 0, .string ⟨#[]⟩, .int .i64 0]) 5 48 Try.underlying24 hi hz0 hz1 hz2 rfl (by decide) _ _ _ rfl O2 ⟨g, t * 5, none⟩ (n - 1 - t) (c' - t) (part (cutG M i) t (n - 1 - t)) rfl (by rw [part_len]) HN3.out (part_one _ _ _) (by unfold maxLen; omega) (by omega) hs7 ?_; intro vq wq hown2 hgrow _; (have hown3 : wq.ownsRow (jk + 2) 30 5 vq (t + 1 + (n - 1 - t)) (frow (insG (cutG M i) t Y) (t + 1 + (n - 1 - t))) := (by have q := hown2; rw [frow_part] at q; exact q)); (obtain ⟨a3, c3, rfl, _, _, _⟩ := ownF_src hown3); (have G7 := grown_belowF O2 hgrow hs7); (have R8 := R7.belowB G7 (by omega)); (have K8 := K7.belowB G7 (by omega)); (have B8 := B7.trans (G7.mono (by omega))); (obtain ⟨r0, r1, r2, r3, r4⟩ := id R8); clear k0 k1 k2 k3 k4; (obtain ⟨k0, k1, k2, k3, k4⟩ := id K8); clear hown2 hgrow)
      go_wp2_with fail
      have PK := But.one wq jk 1 (.slice a3 (t + 1 + (n - 1 - t)) c3)
      have PR := ((But.refl (w.heap.size + 1) (wq.setCell ⟨jk, 1, none⟩ (.slice a3 (t + 1 + (n - 1 - t)) c3))).setCell 0 (.int .i64 nx)).setCell 1 (.slice a3 (t + 1 + (n - 1 - t)) c3)
      have B9 := (B8.trans (PK.below (by omega) B8.size))
      exact bodyPost_ret (v := .tuple #[.agg #[.int .i64 nx, .slice a3 (t + 1 + (n - 1 - t)) c3], .int .i64 0]) (by simp (maxDischargeDepth := 6) [results, Try.results31, go_sem, *]) rfl ⟨a3, c3, rfl, ownB_le (own_butF (own_butF hown3 PK (by omega)) PR (by omega)) (by omega), B9.trans (PR.below (by omega) B9.size)⟩
end Go.Proofs.Ytjhnfnehdiapcaa
