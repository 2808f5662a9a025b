/- The walk of FnMail. -/
import Derived.Test.YtgfhcilhibbooaaMf7
import Derived.Test.YtgfhcilhibbooaaMf8
import Derived.Test.YtgfhcilhibbooaaMf5
import Derived.Deep.RegionHeld3
import Derived.Deep.QuietTactic
import Derived.BigQuiet
import Derived.WalkKit
import Derived.WalkSpells
import Derived.WalkLawsBesides
import Derived.Deep.RegionHeld
namespace Go.Proofs.Ytgfhcilhibbooaa
open Go.RowKit
set_option linter.unusedVariables false
theorem implNetTake0 (nx i : Int) (a0 : Option Addr) (n c : Nat) (M : Nat → FT) (X : Int) (m : Nat) (G : Nat → FT) (y0 y1 y2 : Int) (y3 : ByteArray) (y4 : Int) (C : Int) (w : World) (hm : n ≤ maxLen) (hf : SrcC w a0 (n * 5) (MFFlight M)) (hs : ∀ i, i < n → ((M i).2.2.2.1).size ≤ maxLen) (hw : ∀ i, i < n → (Lit.int .i64 (M i).1).wf = true) (h : TkIs nx M n i X m G (y0, y1, y2, y3, y4) C) (hC : C ≠ 0) :
    Calls Try.prog 8 #[.agg #[.int .i64 nx, .slice a0 n c], .int .i64 i] w fun e w' => ∃ a' c', e = .returned (.tuple #[.agg #[.int .i64 X, .slice a' m c'], .agg #[.int .i64 y0, .int .i64 y1, .int .i64 y2, .string y3, .int .i64 y4], .int .i64 C]) ∧ w'.ownsRow w.heap.size 30 5 (.slice a' m c') m (frow G m) ∧ Below w.heap.size w w' := by
  rcases h with ⟨h, rfl, rfl, hy, rfl⟩ | ⟨h, hi, rfl, rfl, rfl, hy, rfl⟩ | ⟨h, k, rfl, hk, rfl, rfl, rfl, hy, rfl⟩
  · obtain ⟨rfl, rfl, rfl, rfl, rfl⟩ := zF_eq hy
    exact (implNetTake0_bad nx i a0 n c M w hm hf hs hw h).mono fun e w' ⟨h1, h2⟩ => ⟨none, 0, h1, World.ownsRow_nil _ _ _ _, h2⟩
  · obtain ⟨rfl, rfl, rfl, rfl, rfl⟩ := zF_eq hy
    exact (implNetTake0_none X i a0 m c G w hm hf hs hw h hi).mono fun e w' ⟨g, h1, h2, h3, h4⟩ => ⟨_, _, h1, own_ofRow h3 h2 hm, h4⟩
  · exact absurd rfl hC
theorem specNetTake0 (nx i : Int) (a0 : Option Addr) (n c : Nat) (M : Nat → FT) (X : Int) (m : Nat) (G : Nat → FT) (y0 y1 y2 : Int) (y3 : ByteArray) (y4 : Int) (C : Int) (w : World) (hm : n ≤ maxLen) (hA : (a0 = none ∧ n = 0 ∧ c = 0) ∨ ∃ g, a0 = some ⟨g, 0, none⟩ ∧ Cs w g 0 (n * 5) (MFFlight M)) (hs : ∀ i, i < n → ((M i).2.2.2.1).size ≤ maxLen) (h : TkIs nx M n i X m G (y0, y1, y2, y3, y4) C) (hC : C ≠ 0) :
    Calls Try.prog 7 #[.agg #[.int .i64 nx, .slice a0 n c], .int .i64 i] w fun e w' => ∃ a' c', e = .returned (.tuple #[.agg #[.int .i64 X, .slice a' m c'], .agg #[.int .i64 y0, .int .i64 y1, .int .i64 y2, .string y3, .int .i64 y4], .int .i64 C]) ∧ w'.ownsRow w.heap.size 30 5 (.slice a' m c') m (frow G m) ∧ Below w.heap.size w w' := by
  rcases hA with ⟨rfl, rfl, rfl⟩ | ⟨g, rfl, hc⟩
  · rcases h with ⟨h, rfl, rfl, hy, rfl⟩ | ⟨h, hi, rfl, rfl, rfl, hy, rfl⟩ | ⟨h, k, rfl, hk, _⟩
    · obtain ⟨rfl, rfl, rfl, rfl, rfl⟩ := zF_eq hy
      exact (specNetTake0_bad nx i none 0 0 M w hm (.inl rfl) hs h).mono fun e w' ⟨h1, h2⟩ => ⟨none, 0, h1, World.ownsRow_nil _ _ _ _, h2⟩
    · obtain ⟨rfl, rfl, rfl, rfl, rfl⟩ := zF_eq hy
      exact specNetTake_nil X i G w hm (.inl rfl) hs h hi
    · exact absurd hk (Nat.not_lt_zero _)
  · exact specNetTake_any nx i g n c M X m G y0 y1 y2 y3 y4 C w hm hc hs h
theorem own_cs {w : World} {base n c : Nat} {a : Option Addr} {G : Nat → FT} (h : w.ownsRow base 30 5 (.slice a n c) n (frow G n)) : (a = none ∧ n = 0 ∧ c = 0) ∨ ∃ g, a = some ⟨g, 0, none⟩ ∧ Cs w g 0 (n * 5) (MFFlight G) := by
  rcases h.2 with ⟨h1, h2⟩ | ⟨g, cap, cur, h1, _⟩
  · simp at h1; exact .inl ⟨h1.1, h2, h1.2.2⟩
  · simp at h1
    obtain ⟨rfl, rfl⟩ := h1
    refine .inr ⟨g, rfl, (World.ownsRow.lt h g rfl).2, fun j hj => ?_⟩
    rcases own_srcF h with h0 | ⟨b, off, hb, hc⟩
    · omega
    · simp at hb
      obtain ⟨rfl, rfl⟩ := hb
      exact hc.2 j hj
set_option maxHeartbeats 4000000 in
theorem implNetDrop0 (nx i : Int) (a0 : Option Addr) (n c : Nat) (M : Nat → FT) (X : Int) (m : Nat) (G : Nat → FT) (y0 y1 y2 : Int) (y3 : ByteArray) (y4 : Int) (C : Int) (w : World) (hm : n ≤ maxLen) (hf : SrcC w a0 (n * 5) (MFFlight M)) (hs : ∀ i, i < n → ((M i).2.2.2.1).size ≤ maxLen) (hw : ∀ i, i < n → (Lit.int .i64 (M i).1).wf = true) (h : TkIs nx M n i X m G (y0, y1, y2, y3, y4) C) (hC : C ≠ 0) :
    Calls Try.prog 9 #[.agg #[.int .i64 nx, .slice a0 n c], .int .i64 i] w fun e w' => ∃ a' c', e = .returned (.tuple #[.agg #[.int .i64 X, .slice a' m c'], .int .i64 C]) ∧ w'.ownsRow w.heap.size 30 5 (.slice a' m c') m (frow G m) ∧ Below w.heap.size w w' := by
  have A1 := Below.nw w (.cells #[.int .i64 nx, .slice a0 n c] 26)
  have B := A1.alloc A1.size (.cells #[.int .i64 0, .slice none 0 0] 26)
  have R := B2.new (w.alloc (.cells #[.int .i64 nx, .slice a0 n c] 26)) (.int .i64 0) (.slice none 0 0) 26
  have CS := hf.below B
  have CT := implNetTake0 nx i a0 n c M X m G y0 y1 y2 y3 y4 C _ hm CS hs hw h hC
  simp only [World.size_alloc] at R
  have hS : w.heap.size + 1 < ((w.alloc (.cells #[.int .i64 nx, .slice a0 n c] 26)).alloc (.cells #[.int .i64 0, .slice none 0 0] 26)).heap.size := by simp
  clear hf hs hw h A1 CS
  go_enter Try.func9, Try.ntmps9
  go_wp2_with fail
  refine CT.mono ?_
  rintro e v ⟨a', c', rfl, S0, hb⟩
  replace B := B.trans (hb.mono B.size)
  replace R := R.below hb
  clear hb CT
  have A2 := Below.nw v (.cells #[.int .i64 X, .slice a' m c'] 26)
  have A3 := Below.nw (v.alloc (.cells #[.int .i64 X, .slice a' m c'] 26)) (.cells #[.int .i64 y0, .int .i64 y1, .int .i64 y2, .string y3, .int .i64 y4] 30)
  have hv := R.1
  replace R := (R.below A2).below A3
  replace S0 := own_belowF (own_belowF S0 A2) A3
  have K := (NB.new v X a' m c' 26).below A3
  replace B := (B.trans (A2.mono B.size)).trans (A3.mono (B.trans (A2.mono B.size)).size)
  clear A2 A3
  obtain ⟨r0, r1, r2, r3, r4⟩ := id R
  obtain ⟨k0, k1, k2⟩ := id K
  go_wp2_with fail
  generalize (v.alloc (.cells #[.int .i64 X, .slice a' m c'] 26)).alloc (.cells #[.int .i64 y0, .int .i64 y1, .int .i64 y2, .string y3, .int .i64 y4] 30) = v2 at *
  have PB := ((But.refl (w.heap.size + 1) v2).setCell 0 (.int .i64 X)).setCell 1 (.slice a' m c')
  exact bodyPost_ret (v := .tuple #[.agg #[.int .i64 X, .slice a' m c'], .int .i64 C]) (by simp (maxDischargeDepth := 6) [results, Try.results9, go_sem, *]) rfl ⟨a', c', rfl, ownB_le (own_butF S0 PB hS) (by simp; omega), B.trans (PB.below (by omega) B.size)⟩


set_option maxRecDepth 100000 in
set_option maxHeartbeats 8000000 in
theorem walkMail (a : Option Addr) (n c : Nat) (w : World) (hcode : CodeB w w.heap.size a n) :
    Calls Try.prog 3 #[.slice a n c] w fun e w' => e = .returned (.bool true) ∧ Below w.heap.size w w' := by
  have HC : Hid (CodeB w w.heap.size a n) := hcode
  clear hcode
  by_cases hbig : 1048576 < n
  · have hd : decide (1048576 < (n : Int)) = true := by simp; omega
    go_enter Try.func3, Try.ntmps3
    go_wp2_with fail
    refine (big_any _ _ _ _).mono ?_
    rintro e w' ⟨rfl, rfl⟩
    rw [hd]
    go_wp2_with fail
    go_ret
    exact ⟨rfl, Below.refl _ _⟩
  · have hd : decide (1048576 < (n : Int)) = false := by simp; omega
    have hn9 : n ≤ 1048576 := by omega
    go_enter Try.func3, Try.ntmps3
    go_wp2_with fail
    refine (big_any _ _ _ _).mono ?_
    rintro e w' ⟨rfl, rfl⟩
    rw [hd]
    go_wp2_with fail
    refine (DrawNetTake_any a n c _ hn9 HC.out).mono ?_
    rintro e w1 ⟨nx, A, m, c', M, i, rfl, hm, hk, o1, B1⟩
    have HCA := own_cs o1
    have HS : Hid (SrcC w1 A (m * 5) (MFFlight M)) := own_srcF o1
    clear o1 hbig hd
    have hmm : m ≤ maxLen := by unfold maxLen; omega
    have HZ : Hid (∀ i, i < m → ((M i).2.2.2.1).size ≤ maxLen) := fun i hi => by have := (hk i hi).2; unfold maxLen; omega
    have HW : Hid (∀ i, i < m → (Lit.int .i64 (M i).1).wf = true) := fun i hi => (hk i hi).1
    have hB1 := B1.size
    have B := Below.nw w1 (.cells #[.int .i64 nx, .slice A m c'] 26)
    have N := NB.new w1 nx A m c' 26
    obtain ⟨X, mm, G, Y, C, hT, hmm2⟩ := tk_ex nx M m i
    obtain ⟨y0, y1, y2, y3, y4, hY⟩ : ∃ (y0 y1 y2 : Int) (y3 : ByteArray) (y4 : Int), Y = (y0, y1, y2, y3, y4) := ⟨_, _, _, _, _, rfl⟩
    subst hY
    have HCB : ∀ v, Below w1.heap.size w1 v → (A = none ∧ m = 0 ∧ c' = 0) ∨ ∃ g, A = some ⟨g, 0, none⟩ ∧ Cs v g 0 (m * 5) (MFFlight M) := fun v hb => by
      rcases HCA with h | ⟨g, h1, h2⟩
      · exact .inl h
      · exact .inr ⟨g, h1, h2.below hb h2.1⟩
    have HCH : Hid (∀ v, Below w1.heap.size w1 v → (A = none ∧ m = 0 ∧ c' = 0) ∨ ∃ g, A = some ⟨g, 0, none⟩ ∧ Cs v g 0 (m * 5) (MFFlight M)) := HCB
    clear HCA HCB
    go_upto_region 4 with fail
    generalize hjp : w1.alloc (.cells #[.int .i64 nx, .slice A m c'] 26) = v1 at *
    obtain ⟨jp, hjp2⟩ : ∃ jp, w1.heap.size = jp := ⟨_, rfl⟩
    rw [hjp2] at N
    rw [hjp2]
    clear hjp
    by_cases hC : C = 0
    · skip
      subst hC
      have hT2 := hT
      rcases hT with ⟨_, _, _, _, h⟩ | ⟨_, _, _, _, _, _, h⟩ | ⟨hN, k, rfl, hk9, rfl, rfl, rfl, hY9, -⟩
      · exact absurd h (by decide)
      · exact absurd h (by decide)
      have hx := netB_nx9 hN
      have hm40 := netB_n hN
      obtain ⟨g, rfl, hcg⟩ : ∃ g, A = some ⟨g, 0, none⟩ ∧ Cs w1 g 0 (m * 5) (MFFlight M) := by
        rcases HCH.out w1 (Below.refl _ _) with ⟨_, h0, _⟩ | h
        · omega
        · exact h
      have HCS : Hid (∀ v, Below w1.heap.size w1 v → Cs v g 0 (m * 5) (MFFlight M)) := fun v hb => hcg.below hb hcg.1
      clear hcg HCH
      obtain ⟨n0, n1, n2⟩ := id N
      go_wp2_with fail
      refine (specNetTake_any X k g m c' M X (m - 1) _ y0 y1 y2 y3 y4 0 _ hmm (HCS.out _ B) HZ.out hT2).mono ?_
      rintro e w2 ⟨a2, c2, rfl, _, hb⟩
      clear n0 n1 n2
      replace N := N.below hb
      replace B := B.trans (hb.mono B.size)
      clear hb
      have A1 := Below.nw w2 (.cells #[.int .i64 X, .slice a2 (m - 1) c2] 26)
      have A2 := Below.nw (w2.alloc (.cells #[.int .i64 X, .slice a2 (m - 1) c2] 26)) (.cells #[.int .i64 y0, .int .i64 y1, .int .i64 y2, .string y3, .int .i64 y4] 30)
      have K5 := (NB.new w2 X a2 (m - 1) c2 26).below A2
      have F6 := F5.new (w2.alloc (.cells #[.int .i64 X, .slice a2 (m - 1) c2] 26)) y0 y1 y2 y3 y4 30
      replace N := (N.below A1).below A2
      replace B := B.trans (A1.mono B.size)
      replace B := B.trans (A2.mono B.size)
      simp only [World.size_alloc] at F6
      clear A1 A2
      go_upto_region 5 with fail
      generalize (w2.alloc (.cells #[.int .i64 X, .slice a2 (m - 1) c2] 26)).alloc (.cells #[.int .i64 y0, .int .i64 y1, .int .i64 y2, .string y3, .int .i64 y4] 30) = v2 at *
      generalize w2.heap.size = j2 at *
      obtain ⟨n0, n1, n2⟩ := id N
      go_wp2_with fail
      refine (implNetTake_any X k g m c' M X (m - 1) _ y0 y1 y2 y3 y4 0 _ hmm (HCS.out _ B) HZ.out HW.out hT2).mono ?_
      rintro e w3 ⟨a3, c3, rfl, _, hb⟩
      clear n0 n1 n2
      replace N := N.below hb
      replace K5 := K5.below hb
      replace F6 := F6.below hb
      replace B := B.trans (hb.mono B.size)
      clear hb
      have A1 := Below.nw w3 (.cells #[.int .i64 X, .slice a3 (m - 1) c3] 26)
      have A2 := Below.nw (w3.alloc (.cells #[.int .i64 X, .slice a3 (m - 1) c3] 26)) (.cells #[.int .i64 y0, .int .i64 y1, .int .i64 y2, .string y3, .int .i64 y4] 30)
      have K8 := (NB.new w3 X a3 (m - 1) c3 26).below A2
      have F9 := F5.new (w3.alloc (.cells #[.int .i64 X, .slice a3 (m - 1) c3] 26)) y0 y1 y2 y3 y4 30
      replace N := (N.below A1).below A2
      replace K5 := K5.below A1
      replace F6 := F6.below A1
      replace K5 := K5.below A2
      replace F6 := F6.below A2
      replace B := B.trans (A1.mono B.size)
      replace B := B.trans (A2.mono B.size)
      simp only [World.size_alloc] at F9
      clear A1 A2
      go_upto_region 6 with fail
      generalize (w3.alloc (.cells #[.int .i64 X, .slice a3 (m - 1) c3] 26)).alloc (.cells #[.int .i64 y0, .int .i64 y1, .int .i64 y2, .string y3, .int .i64 y4] 30) = v3 at *
      generalize w3.heap.size = j3 at *
      obtain ⟨k0, k1, k2⟩ := id K5
      obtain ⟨l0, l1, l2⟩ := id K8
      obtain ⟨p0, p1, p2, p3, p4, p5, p6, p7, p8, p9, p10⟩ := id F6
      obtain ⟨q0, q1, q2, q3, q4, q5, q6, q7, q8, q9, q10⟩ := id F9
      go_upto_region 8 with fail
      clear k0 k1 k2 l0 l1 l2 p0 p1 p2 p3 p4 p5 p6 p7 p8 p9 p10 q0 q1 q2 q3 q4 q5 q6 q7 q8 q9 q10 K5 K8 F9
      obtain ⟨X2, m2, G2, _, C2, ⟨hD, _⟩, hm2⟩ := db_ex X M m (k : Int)
      obtain ⟨n0, n1, n2⟩ := id N
      go_wp2_with fail
      refine (implNetDouble_any X k g m c' M X2 m2 G2 C2 _ hmm (HCS.out _ B) HZ.out HW.out hD).mono ?_
      rintro e w4 ⟨a4, c4, rfl, O4, hb⟩
      clear n0 n1 n2
      replace N := N.below hb
      replace F6 := F6.below hb
      replace B := B.trans (hb.mono B.size)
      clear hb
      have A1 := Below.nw w4 (.cells #[.int .i64 X2, .slice a4 m2 c4] 26)
      have K13 := NB.new w4 X2 a4 m2 c4 26
      replace N := N.below A1
      replace F6 := F6.below A1
      replace O4 := own_belowF O4 A1
      replace B := B.trans (A1.mono B.size)
      clear A1
      go_upto_region 12 with fail
      generalize hO4 : w4.alloc (.cells #[.int .i64 X2, .slice a4 m2 c4] 26) = v4 at *
      clear hO4
      obtain ⟨j4, hj4⟩ : ∃ j4, w4.heap.size = j4 := ⟨_, rfl⟩
      rw [hj4] at K13
      rw [hj4]
      obtain ⟨n0, n1, n2⟩ := id N
      go_wp2_with fail
      refine (specNetDouble_any X k g m c' M X2 m2 G2 C2 _ hmm (HCS.out _ B) HZ.out hD).mono ?_
      rintro e w5 ⟨a5, c5, rfl, _, hb⟩
      clear n0 n1 n2
      replace N := N.below hb
      replace F6 := F6.below hb
      replace K13 := K13.below hb
      replace O4 := own_belowF O4 hb
      replace B := B.trans (hb.mono B.size)
      clear hb
      have A1 := Below.nw w5 (.cells #[.int .i64 X2, .slice a5 m2 c5] 26)
      replace N := N.below A1
      replace F6 := F6.below A1
      replace K13 := K13.below A1
      replace O4 := own_belowF O4 A1
      replace B := B.trans (A1.mono B.size)
      clear A1
      go_upto_region 13 with fail
      generalize w5.alloc (.cells #[.int .i64 X2, .slice a5 m2 c5] 26) = v5 at *
      rcases hD with ⟨h, _⟩ | ⟨_, h, _⟩ | ⟨_, k', hkk, _, hD⟩
      · rw [hN] at h; cases h
      · exact absurd ⟨by omega, by omega⟩ h
      obtain rfl : k = k' := by omega
      clear hkk
      rcases hD with ⟨_, h1, h2, h3, rfl⟩ | ⟨hu, rfl, rfl, rfl, rfl⟩
      · skip
        replace h1 := h1.symm
        replace h2 := h2.symm
        replace h3 := h3.symm
        subst h1 h2 h3
        clear K13 O4
        go_upto_region 19 with fail
        have hmn : ¬ m = 0 := by omega
        have hm0 : (m : Int) ≠ 0 := by omega
        have hmb : ((m : Int) == 0) = false := by simpa using hm0
        obtain ⟨n0, n1, n2⟩ := id N
        refine wp_region_held_drew (S := (fun w' => w'.cell? ⟨jp, 1, none⟩ = some (.slice (some ⟨g, 0, none⟩) m c'))) (by kernel_rfl) ?_ (fun hHeld => ?_)
        · first | exact n2 | (simp (maxDischargeDepth := 6) [go_sem, *]; done)
        clear n0 n1 n2
        replace N := N.drew
        replace F6 := F6.drew
        replace B := Below.drew B
        generalize v5.drew = v at *
        obtain ⟨n0, n1, n2⟩ := id N
        refine wpAnyH_take (i := 0) (v := ?_) (by rw [List.getElem?_toArray]; rfl) (by kernel_rfl) (by kernel_rfl) (by kernel_rfl) (by intro _ _ _ h; exact h) (Or.inl ⟨by rfl, ?_⟩) (by assumption) ?_
        rotate_left
        · (intro w hSw; (try dsimp only at hSw); go_simp; all_goals with_reducible rfl)
        (try simp only [Act.put, List.setIfInBounds_toArray, List.set_cons_zero, List.set_cons_succ])
        refine wpAnyH_take (i := 2) (v := ?_) (by rw [List.getElem?_toArray]; rfl) (by kernel_rfl) (by kernel_rfl) (by kernel_rfl) (by intro _ _ _ h; exact h) (Or.inl ⟨by rfl, ?_⟩) (by assumption) ?_
        rotate_left
        · (intro w hSw; (try dsimp only at hSw); go_simp; all_goals with_reducible rfl)
        (try simp only [Act.put, List.setIfInBounds_toArray, List.set_cons_zero, List.set_cons_succ])
        refine wpAnyH_take (i := 3) (v := ?_) (by rw [List.getElem?_toArray]; rfl) (by kernel_rfl) (by kernel_rfl) (by kernel_rfl) (by intro _ _ _ h; exact h) (Or.inl ⟨by rfl, ?_⟩) (by assumption) ?_
        rotate_left
        · (intro w hSw; (try dsimp only at hSw); go_simp; all_goals with_reducible rfl)
        (try simp only [Act.put, List.setIfInBounds_toArray, List.set_cons_zero, List.set_cons_succ])
        refine wpAnyH_take (i := 4) (v := ?_) (by rw [List.getElem?_toArray]; rfl) (by kernel_rfl) (by kernel_rfl) (by kernel_rfl) (by intro _ _ _ h; exact h) (Or.inl ⟨by rfl, ?_⟩) (by assumption) ?_
        rotate_left
        · (intro w hSw; (try dsimp only at hSw); go_simp; all_goals with_reducible rfl)
        (try simp only [Act.put, List.setIfInBounds_toArray, List.set_cons_zero, List.set_cons_succ])
        refine wpAnyH_ready (rs := [1]) (by kernel_rfl) (by simp) ?_
        refine (AllReadyH.cons (by rw [List.getElem?_toArray]; rfl) (fun K hK => ?_) AllReadyH.nil)
        go_simp
        refine (at_any _ _ _ 3 w.heap.size _ hn9 (by omega) (HC.out.below (B1.trans (B.mono hB1)))).mono ?_; rintro e w' ⟨x, rfl, xl, xh, rfl⟩; (obtain ⟨xn, rfl⟩ : ∃ xn : Nat, x = (xn : Int) := ⟨x.toNat, by omega⟩); (have ht : ((xn : Int).tmod (m : Int)) = ((xn % m : Nat) : Int) := by rw [Int.tmod_eq_emod_of_nonneg (by omega)]; rfl); (have hlm : xn % m < m := Nat.mod_lt _ (by omega))
        (try go_wp2_with fail)
        refine hK.out _ _ ?_ (fun hHeld => ?_)
        · first | exact n2 | (simp (maxDischargeDepth := 6) [go_sem, *]; done)
        clear hK K
        (try simp only [Act.put, List.setIfInBounds_toArray, List.set_cons_zero, List.set_cons_succ])
        refine wpAnyH_take (i := 5) (v := ?_) (by rw [List.getElem?_toArray]; rfl) (by kernel_rfl) (by kernel_rfl) (by kernel_rfl) (by intro _ _ _ h; exact h) (Or.inl ⟨by rfl, ?_⟩) (by assumption) ?_
        rotate_left
        · (intro w hSw; (try dsimp only at hSw); go_simp; all_goals with_reducible rfl)
        (try simp only [Act.put, List.setIfInBounds_toArray, List.set_cons_zero, List.set_cons_succ])
        refine wpAnyH_take (i := 6) (v := ?_) (by rw [List.getElem?_toArray]; rfl) (by kernel_rfl) (by kernel_rfl) (by kernel_rfl) (by intro _ _ _ h; exact h) (Or.inl ⟨by rfl, ?_⟩) (by assumption) ?_
        rotate_left
        · (intro w hSw; (try dsimp only at hSw); go_simp; all_goals with_reducible rfl)
        (try simp only [Act.put, List.setIfInBounds_toArray, List.set_cons_zero, List.set_cons_succ])
        refine wpAnyH_done (by kernel_rfl) ?_ _
        obtain ⟨l, hl⟩ : ∃ l, xn % m = l := ⟨_, rfl⟩
        have hxe : (xn : Int) % (m : Int) = ((l : Nat) : Int) := by rw [← hl]; rfl
        rw [hl] at hlm
        (try rw [hxe])
        clear n0 n1 n2 ht hl
        have HMV : Hid (MvIs X M m (k : Int) (l : Int) X m (insG (cutG M k) l (M k)) 0) := .inr (.inr ⟨hN, k, l, rfl, hk9, rfl, hlm, rfl, rfl, rfl, rfl⟩)
        have hN3 := netB_mv hN hk9 hlm
        have hk3 : fwf (insG (cutG M k) l (M k)) m := fun j hj => by rw [mv_at M hk9 hlm hj]; exact hk _ (mvP_lt hk9 hlm hj)
        have hto := mv_to M k l
        have hho := mv_home M hk9 hlm
        generalize insG (cutG M k) l (M k) = G3 at *
        obtain ⟨n0, n1, n2⟩ := id N
        (try go_wp2_with fail)
        refine (implNetMove_any X k l g m c' M X m G3 0 _ hmm (HCS.out _ B) HZ.out HW.out HMV.out).mono ?_
        rintro e w8 ⟨a8, c8, rfl, O8, hb⟩
        clear n0 n1 n2
        replace N := N.below hb
        replace F6 := F6.below hb
        replace B := B.trans (hb.mono B.size)
        clear hb
        have A1 := Below.nw w8 (.cells #[.int .i64 X, .slice a8 m c8] 26)
        have K20 := NB.new w8 X a8 m c8 26
        replace N := N.below A1
        replace F6 := F6.below A1
        replace O8 := own_belowF O8 A1
        replace B := B.trans (A1.mono B.size)
        clear A1
        go_upto_region 21 with fail
        generalize hO8 : w8.alloc (.cells #[.int .i64 X, .slice a8 m c8] 26) = v8 at *
        clear hO8
        obtain ⟨j8, hj8⟩ : ∃ j8, w8.heap.size = j8 := ⟨_, rfl⟩
        rw [hj8] at K20
        rw [hj8]
        obtain ⟨g8, rfl, CS8⟩ : ∃ g8, a8 = some ⟨g8, 0, none⟩ ∧ Cs v8 g8 0 (m * 5) (MFFlight G3) := by
          rcases own_cs O8 with ⟨_, h0, _⟩ | h
          · omega
          · exact h
        have HM2 : Hid (MvIs X G3 m (l : Int) (k : Int) X m (insG (cutG G3 l) k (G3 l)) 0) := .inr (.inr ⟨hN3, l, k, rfl, hlm, rfl, hk9, rfl, rfl, rfl, rfl⟩)
        have HD2 : Hid (∀ i, i < m → ((G3 i).2.2.2.1).size ≤ maxLen) := fun i hi => by have := (hk3 i hi).2; unfold maxLen; omega
        have HD3 : Hid (∀ i, i < m → (Lit.int .i64 (G3 i).1).wf = true) := fun i hi => (hk3 i hi).1
        have HC8 : Hid (Cs v8 g8 0 (m * 5) (MFFlight G3)) := CS8
        obtain ⟨k0, k1, k2⟩ := id K20
        go_wp2_with fail
        refine (implNetMove_any X l k g8 m c8 G3 X m _ 0 _ hmm HC8.out HD2.out HD3.out HM2.out).mono ?_
        rintro e w9 ⟨a9, c9, rfl, O9, hb⟩
        rw [hto] at O9
        rw [frow_congr hho] at O9
        clear k0 k1 k2 O8 HC8 HM2 HD2 HD3
        have hEL : G3 l = (y0, y1, y2, y3, y4) := hto.trans hY9.symm
        replace N := N.below hb
        replace F6 := F6.below hb
        replace K20 := K20.below hb
        replace CS8 := CS8.below hb CS8.1
        replace B := B.trans (hb.mono B.size)
        clear hb
        have hO9 : w9.heap.size ≤ w9.heap.size := Nat.le_refl _
        have A1 := Below.nw w9 (.cells #[.int .i64 X, .slice a9 m c9] 26)
        have K22 := NB.new w9 X a9 m c9 26
        replace N := N.below A1
        replace F6 := F6.below A1
        replace K20 := K20.below A1
        replace CS8 := CS8.below A1 CS8.1
        replace O9 := own_belowF O9 A1
        replace B := B.trans (A1.mono B.size)
        clear A1 hO9
        go_upto_region 22 with fail
        generalize hO9 : w9.alloc (.cells #[.int .i64 X, .slice a9 m c9] 26) = v9 at *
        clear hO9
        obtain ⟨j9, hj9⟩ : ∃ j9, w9.heap.size = j9 := ⟨_, rfl⟩
        rw [hj9] at K22
        rw [hj9]
        have hli : (l : Int) < (m : Int) := by omega
        (obtain ⟨n0, n1, n2⟩ := id N)
        (obtain ⟨k0, k1, k2⟩ := id K20)
        (obtain ⟨l0, l1, l2⟩ := id K22)
        (obtain ⟨p0, p1, p2, p3, p4, p5, p6, p7, p8, p9, p10⟩ := id F6)
        (obtain ⟨t0, t1, t2, t3, t4⟩ := Cs.elFlight CS8 hlm hEL)
        (simp only [Nat.zero_add] at t0 t1 t2 t3 t4)
        refine wp_region_held_drew (S := (fun w' => (w'.cell? ⟨jp, 1, none⟩ = some (.slice (some ⟨g, 0, none⟩) m c') ∧ w'.cell? ⟨j8, 1, none⟩ = some (.slice (some ⟨g8, 0, none⟩) m c8) ∧ w'.cell? ⟨j9, 1, none⟩ = some (.slice a9 m c9)) ∧ (w'.cell? ⟨j2 + 1, 0, none⟩ = some (.int .i64 y0) ∧ w'.cell? ⟨j2 + 1, 1, none⟩ = some (.int .i64 y1) ∧ w'.cell? ⟨j2 + 1, 2, none⟩ = some (.int .i64 y2) ∧ w'.cell? ⟨j2 + 1, 3, none⟩ = some (.string y3) ∧ w'.cell? ⟨j2 + 1, 4, none⟩ = some (.int .i64 y4)) ∧ (w'.cell? ⟨g8, l * 5, none⟩ = some (.int .i64 y0) ∧ w'.cell? ⟨g8, l * 5 + 1, none⟩ = some (.int .i64 y1) ∧ w'.cell? ⟨g8, l * 5 + 2, none⟩ = some (.int .i64 y2) ∧ w'.cell? ⟨g8, l * 5 + 3, none⟩ = some (.string y3) ∧ w'.cell? ⟨g8, l * 5 + 4, none⟩ = some (.int .i64 y4)))) (by kernel_rfl) ?_ (fun hHeld => ?_)
        · first | exact ⟨⟨n2, k2, l2⟩, ⟨p1, p2, p3, p4, p5⟩, ⟨t0, t1, t2, t3, t4⟩⟩ | trivial | (simp (maxDischargeDepth := 6) [go_sem, *]; done)
        clear n0 n1 n2 k0 k1 k2 l0 l1 l2 p0 p1 p2 p3 p4 p5 p6 p7 p8 p9 p10 t0 t1 t2 t3 t4
        replace N := N.drew
        replace K20 := K20.drew
        replace K22 := K22.drew
        replace F6 := F6.drew
        replace CS8 := CS8.drew
        replace B := Below.drew B
        have O9 : (World.drew v9).ownsRow v8.heap.size 30 5 (.slice a9 m c9) m (frow M m) := O9
        generalize v9.drew = v9 at *
        (obtain ⟨n0, n1, n2⟩ := id N)
        (obtain ⟨k0, k1, k2⟩ := id K20)
        (obtain ⟨l0, l1, l2⟩ := id K22)
        (obtain ⟨p0, p1, p2, p3, p4, p5, p6, p7, p8, p9, p10⟩ := id F6)
        (obtain ⟨t0, t1, t2, t3, t4⟩ := Cs.elFlight CS8 hlm hEL)
        (simp only [Nat.zero_add] at t0 t1 t2 t3 t4)
        refine wpAnyH_take (i := 0) (v := ?_) (by rw [List.getElem?_toArray]; rfl) (by kernel_rfl) (by kernel_rfl) (by kernel_rfl) (by intro _ _ _ h; exact h) (Or.inl ⟨by rfl, ?_⟩) (by assumption) ?_
        rotate_left
        · (intro w hSw; (try dsimp only at hSw); go_simp; all_goals with_reducible rfl)
        (try simp only [Act.put, List.setIfInBounds_toArray, List.set_cons_zero, List.set_cons_succ])
        refine wpAnyH_take (i := 1) (v := ?_) (by rw [List.getElem?_toArray]; rfl) (by kernel_rfl) (by kernel_rfl) (by kernel_rfl) (by intro _ _ _ h; exact h) (Or.inl ⟨by rfl, ?_⟩) (by assumption) ?_
        rotate_left
        · (intro w hSw; (try dsimp only at hSw); go_simp; all_goals with_reducible rfl)
        (try simp only [Act.put, List.setIfInBounds_toArray, List.set_cons_zero, List.set_cons_succ])
        refine wpAnyH_take (i := 2) (v := ?_) (by rw [List.getElem?_toArray]; rfl) (by kernel_rfl) (by kernel_rfl) (by kernel_rfl) (by intro _ _ _ h; exact h) (Or.inl ⟨by rfl, ?_⟩) (by assumption) ?_
        rotate_left
        · (intro w hSw; (try dsimp only at hSw); go_simp; all_goals with_reducible rfl)
        (try simp only [Act.put, List.setIfInBounds_toArray, List.set_cons_zero, List.set_cons_succ])
        refine wpAnyH_take (i := 3) (v := ?_) (by rw [List.getElem?_toArray]; rfl) (by kernel_rfl) (by kernel_rfl) (by kernel_rfl) (by intro _ _ _ h; exact h) (Or.inl ⟨by rfl, ?_⟩) (by assumption) ?_
        rotate_left
        · (intro w hSw; (try dsimp only at hSw); go_simp; all_goals with_reducible rfl)
        (try simp only [Act.put, List.setIfInBounds_toArray, List.set_cons_zero, List.set_cons_succ])
        refine wpAnyH_take (i := 4) (v := ?_) (by rw [List.getElem?_toArray]; rfl) (by kernel_rfl) (by kernel_rfl) (by kernel_rfl) (by intro _ _ _ h; exact h) (Or.inl ⟨by rfl, ?_⟩) (by assumption) ?_
        rotate_left
        · (intro w hSw; (try dsimp only at hSw); go_simp; all_goals with_reducible rfl)
        (try simp only [Act.put, List.setIfInBounds_toArray, List.set_cons_zero, List.set_cons_succ])
        refine wpAnyH_take (i := 5) (v := ?_) (by rw [List.getElem?_toArray]; rfl) (by kernel_rfl) (by kernel_rfl) (by kernel_rfl) (by intro _ _ _ h; exact h) (Or.inl ⟨by rfl, ?_⟩) (by assumption) ?_
        rotate_left
        · (intro w hSw; (try dsimp only at hSw); go_simp; all_goals with_reducible rfl)
        (try simp only [Act.put, List.setIfInBounds_toArray, List.set_cons_zero, List.set_cons_succ])
        refine wpAnyH_take (i := 6) (v := ?_) (by rw [List.getElem?_toArray]; rfl) (by kernel_rfl) (by kernel_rfl) (by kernel_rfl) (by intro _ _ _ h; exact h) (Or.inl ⟨by rfl, ?_⟩) (by assumption) ?_
        rotate_left
        · (intro w hSw; (try dsimp only at hSw); go_simp; all_goals with_reducible rfl)
        (try simp only [Act.put, List.setIfInBounds_toArray, List.set_cons_zero, List.set_cons_succ])
        refine wpAnyH_take (i := 7) (v := ?_) (by rw [List.getElem?_toArray]; rfl) (by kernel_rfl) (by kernel_rfl) (by kernel_rfl) (by intro _ _ _ h; exact h) (Or.inl ⟨by rfl, ?_⟩) (by assumption) ?_
        rotate_left
        · (intro w hSw; (try dsimp only at hSw); go_simp; all_goals with_reducible rfl)
        (try simp only [Act.put, List.setIfInBounds_toArray, List.set_cons_zero, List.set_cons_succ])
        refine wpAnyH_take (i := 8) (v := ?_) (by rw [List.getElem?_toArray]; rfl) (by kernel_rfl) (by kernel_rfl) (by kernel_rfl) (by intro _ _ _ h; exact h) (Or.inl ⟨by rfl, ?_⟩) (by assumption) ?_
        rotate_left
        · (intro w hSw; (try dsimp only at hSw); go_simp; all_goals with_reducible rfl)
        (try simp only [Act.put, List.setIfInBounds_toArray, List.set_cons_zero, List.set_cons_succ])
        refine wpAnyH_take (i := 9) (v := ?_) (by rw [List.getElem?_toArray]; rfl) (by kernel_rfl) (by kernel_rfl) (by kernel_rfl) (by intro _ _ _ h; exact h) (Or.inl ⟨by rfl, ?_⟩) (by assumption) ?_
        rotate_left
        · (intro w hSw; (try dsimp only at hSw); go_simp; all_goals with_reducible rfl)
        (try simp only [Act.put, List.setIfInBounds_toArray, List.set_cons_zero, List.set_cons_succ])
        refine wpAnyH_take (i := 10) (v := ?_) (by rw [List.getElem?_toArray]; rfl) (by kernel_rfl) (by kernel_rfl) (by kernel_rfl) (by intro _ _ _ h; exact h) (Or.inl ⟨by rfl, ?_⟩) (by assumption) ?_
        rotate_left
        · (intro w hSw; (try dsimp only at hSw); go_simp; all_goals with_reducible rfl)
        (try simp only [Act.put, List.setIfInBounds_toArray, List.set_cons_zero, List.set_cons_succ])
        refine wpAnyH_take (i := 11) (v := ?_) (by rw [List.getElem?_toArray]; rfl) (by kernel_rfl) (by kernel_rfl) (by kernel_rfl) (by intro _ _ _ h; exact h) (Or.inl ⟨by rfl, ?_⟩) (by assumption) ?_
        rotate_left
        · (intro w hSw; (try dsimp only at hSw); go_simp; all_goals with_reducible rfl)
        (try simp only [Act.put, List.setIfInBounds_toArray, List.set_cons_zero, List.set_cons_succ])
        refine wpAnyH_take (i := 12) (v := ?_) (by rw [List.getElem?_toArray]; rfl) (by kernel_rfl) (by kernel_rfl) (by kernel_rfl) (by intro _ _ _ h; exact h) (Or.inl ⟨by rfl, ?_⟩) (by assumption) ?_
        rotate_left
        · (intro w hSw; (try dsimp only at hSw); go_simp; all_goals with_reducible rfl)
        (try simp only [Act.put, List.setIfInBounds_toArray, List.set_cons_zero, List.set_cons_succ])
        refine wpAnyH_take (i := 13) (v := ?_) (by rw [List.getElem?_toArray]; rfl) (by kernel_rfl) (by kernel_rfl) (by kernel_rfl) (by intro _ _ _ h; exact h) (Or.inl ⟨by rfl, ?_⟩) (by assumption) ?_
        rotate_left
        · (intro w hSw; (try dsimp only at hSw); go_simp; all_goals with_reducible rfl)
        (try simp only [Act.put, List.setIfInBounds_toArray, List.set_cons_zero, List.set_cons_succ])
        refine wpAnyH_take (i := 14) (v := ?_) (by rw [List.getElem?_toArray]; rfl) (by kernel_rfl) (by kernel_rfl) (by kernel_rfl) (by intro _ _ _ h; exact h) (Or.inl ⟨by rfl, ?_⟩) (by assumption) ?_
        rotate_left
        · (intro w hSw; (try dsimp only at hSw); go_simp; all_goals with_reducible rfl)
        (try simp only [Act.put, List.setIfInBounds_toArray, List.set_cons_zero, List.set_cons_succ])
        refine wpAnyH_take (i := 15) (v := ?_) (by rw [List.getElem?_toArray]; rfl) (by kernel_rfl) (by kernel_rfl) (by kernel_rfl) (by intro _ _ _ h; exact h) (Or.inl ⟨by rfl, ?_⟩) (by assumption) ?_
        rotate_left
        · (intro w hSw; (try dsimp only at hSw); go_simp; all_goals with_reducible rfl)
        (try simp only [Act.put, List.setIfInBounds_toArray, List.set_cons_zero, List.set_cons_succ])
        refine wpAnyH_take (i := 16) (v := ?_) (by rw [List.getElem?_toArray]; rfl) (by kernel_rfl) (by kernel_rfl) (by kernel_rfl) (by intro _ _ _ h; exact h) (Or.inl ⟨by rfl, ?_⟩) (by assumption) ?_
        rotate_left
        · (intro w hSw; (try dsimp only at hSw); go_simp; all_goals with_reducible rfl)
        (try simp only [Act.put, List.setIfInBounds_toArray, List.set_cons_zero, List.set_cons_succ])
        refine wpAnyH_take (i := 17) (v := ?_) (by rw [List.getElem?_toArray]; rfl) (by kernel_rfl) (by kernel_rfl) (by kernel_rfl) (by intro _ _ _ h; exact h) (Or.inl ⟨by rfl, ?_⟩) (by assumption) ?_
        rotate_left
        · (intro w hSw; (try dsimp only at hSw); go_simp; all_goals with_reducible rfl)
        (try simp only [Act.put, List.setIfInBounds_toArray, List.set_cons_zero, List.set_cons_succ])
        refine wpAnyH_take (i := 18) (v := ?_) (by rw [List.getElem?_toArray]; rfl) (by kernel_rfl) (by kernel_rfl) (by kernel_rfl) (by intro _ _ _ h; exact h) (Or.inl ⟨by rfl, ?_⟩) (by assumption) ?_
        rotate_left
        · (intro w hSw; (try dsimp only at hSw); go_simp; all_goals with_reducible rfl)
        (try simp only [Act.put, List.setIfInBounds_toArray, List.set_cons_zero, List.set_cons_succ])
        refine wpAnyH_take (i := 19) (v := ?_) (by rw [List.getElem?_toArray]; rfl) (by kernel_rfl) (by kernel_rfl) (by kernel_rfl) (by intro _ _ _ h; exact h) (Or.inl ⟨by rfl, ?_⟩) (by assumption) ?_
        rotate_left
        · (intro w hSw; (try dsimp only at hSw); go_simp; all_goals with_reducible rfl)
        (try simp only [Act.put, List.setIfInBounds_toArray, List.set_cons_zero, List.set_cons_succ])
        refine wpAnyH_ready (rs := [20]) (by kernel_rfl) (by simp) ?_
        refine (AllReadyH.cons (by rw [List.getElem?_toArray]; rfl) (fun K hK => ?_) AllReadyH.nil)
        go_simp
        refine (sameFlights_any a9 _ m c9 c' M _ hm (own_srcF O9) (HS.out.below B)).mono ?_; rintro e v9 ⟨rfl, hb⟩; clear n0 n1 n2 k0 k1 k2 l0 l1 l2 p0 p1 p2 p3 p4 p5 p6 p7 p8 p9 p10 t0 t1 t2 t3 t4; (replace N := N.below hb); (replace K20 := K20.below hb); (replace K22 := K22.below hb); (replace F6 := F6.below hb); (replace CS8 := CS8.below hb CS8.1); (replace B := B.trans (hb.mono B.size)); clear hb O9; (obtain ⟨n0, n1, n2⟩ := id N); (obtain ⟨k0, k1, k2⟩ := id K20); (obtain ⟨l0, l1, l2⟩ := id K22); (obtain ⟨p0, p1, p2, p3, p4, p5, p6, p7, p8, p9, p10⟩ := id F6); (obtain ⟨t0, t1, t2, t3, t4⟩ := Cs.elFlight CS8 hlm hEL); (simp only [Nat.zero_add] at t0 t1 t2 t3 t4)
        (try go_wp2_with fail)
        refine hK.out _ _ ?_ (fun hHeld => ?_)
        · first | exact ⟨⟨n2, k2, l2⟩, ⟨p1, p2, p3, p4, p5⟩, ⟨t0, t1, t2, t3, t4⟩⟩ | trivial | (simp (maxDischargeDepth := 6) [go_sem, *]; done)
        clear hK K
        (try simp only [Act.put, List.setIfInBounds_toArray, List.set_cons_zero, List.set_cons_succ])
        refine wpAnyH_take (i := 21) (v := ?_) (by rw [List.getElem?_toArray]; rfl) (by kernel_rfl) (by kernel_rfl) (by kernel_rfl) (by intro _ _ _ h; exact h) (Or.inl ⟨by rfl, ?_⟩) (by assumption) ?_
        rotate_left
        · (intro w hSw; (try dsimp only at hSw); go_simp; all_goals with_reducible rfl)
        (try simp only [Act.put, List.setIfInBounds_toArray, List.set_cons_zero, List.set_cons_succ])
        refine wpAnyH_take (i := 22) (v := ?_) (by rw [List.getElem?_toArray]; rfl) (by kernel_rfl) (by kernel_rfl) (by kernel_rfl) (by intro _ _ _ h; exact h) (Or.inl ⟨by rfl, ?_⟩) (by assumption) ?_
        rotate_left
        · (intro w hSw; (try dsimp only at hSw); go_simp; all_goals with_reducible rfl)
        (try simp only [Act.put, List.setIfInBounds_toArray, List.set_cons_zero, List.set_cons_succ])
        refine wpAnyH_done (by kernel_rfl) ?_ _
        (try go_wp2_with fail)
        go_ret
        exact ⟨rfl, B1.trans (B.mono hB1)⟩
      · skip
        obtain ⟨f9, hf9⟩ : ∃ f : FT, (X, (M k).2.1, (M k).2.2.1, (M k).2.2.2.1, (M k).2.2.2.2) = f := ⟨_, rfl⟩
        have hf1 : f9.1 = X := by rw [← hf9]
        have hf2 : flT f9 = true := by rw [← hf9]; exact (nOk_fl9 (netB_nOk hN) k hk9).1
        have hf3 : (f9.2.2.2.1).size ≤ 100 := by rw [← hf9]; exact (hk k hk9).2
        have hND := netB_dbl hN hf1 hf2 hu
        have hkD : fwf (insG M m f9) (m + 1) := fwf_add hk (by rw [hf1]; exact wf_small5 ⟨by omega, by omega⟩) hf3
        have hbk := back_dbl (M := M) (n := m) (f := f9)
        rw [hf9] at O4
        generalize insG M m f9 = G2 at *
        clear hf1 hf2 hf3 hf9 hu
        obtain ⟨g4, rfl, hc4⟩ : ∃ g4, a4 = some ⟨g4, 0, none⟩ ∧ Cs v5 g4 0 ((m + 1) * 5) (MFFlight G2) := by
          rcases own_cs O4 with ⟨_, h0, _⟩ | h
          · omega
          · exact h
        have HC4 : Hid (Cs v5 g4 0 ((m + 1) * 5) (MFFlight G2)) := hc4
        obtain ⟨z0, z1, z2, z3, z4, hZ9⟩ : ∃ (z0 z1 z2 : Int) (z3 : ByteArray) (z4 : Int), G2 m = (z0, z1, z2, z3, z4) := ⟨_, _, _, _, _, rfl⟩
        have HDR : ∀ z : Int, z = (m : Int) → TkIs (X + 1) G2 (m + 1) z (X + 1) m (cutG G2 m) (z0, z1, z2, z3, z4) 0 := fun z hz => .inr (.inr ⟨hND, m, hz, by omega, rfl, rfl, rfl, hZ9.symm, rfl⟩)
        have HD2 : Hid (∀ i, i < m + 1 → ((G2 i).2.2.2.1).size ≤ maxLen) := fun i hi => by have := (hkD i hi).2; unfold maxLen; omega
        have HD3 : Hid (∀ i, i < m + 1 → (Lit.int .i64 (G2 i).1).wf = true) := fun i hi => (hkD i hi).1
        clear hc4 O4 hkD hZ9 hND
        obtain ⟨k0, k1, k2⟩ := id K13
        go_wp2_with fail
        refine (implNetDrop_any (X + 1) _ g4 (m + 1) c4 G2 (X + 1) m (cutG G2 m) z0 z1 z2 z3 z4 0 _ (by unfold maxLen; omega) HC4.out HD2.out HD3.out (HDR _ (by simp; try omega))).mono ?_
        rintro e w6 ⟨a6, c6, rfl, O6, hb⟩
        rw [frow_congr hbk] at O6
        clear k0 k1 k2 HDR HD2 HD3 HC4 hbk
        replace N := N.below hb
        replace F6 := F6.below hb
        replace K13 := K13.below hb
        replace B := B.trans (hb.mono B.size)
        clear hb
        have A1 := Below.nw w6 (.cells #[.int .i64 (X + 1), .slice a6 m c6] 26)
        have K17 := NB.new w6 (X + 1) a6 m c6 26
        replace N := N.below A1
        replace F6 := F6.below A1
        replace K13 := K13.below A1
        replace O6 := own_belowF O6 A1
        replace B := B.trans (A1.mono B.size)
        clear A1
        go_upto_region 17 with fail
        generalize w6.heap.size = j6 at *
        generalize w6.alloc (.cells #[.int .i64 (X + 1), .slice a6 m c6] 26) = v6 at *
        have HS6 : Hid (SrcC v6 a6 (m * 5) (MFFlight M)) := own_srcF O6
        clear O6
        obtain ⟨n0, n1, n2⟩ := id N
        obtain ⟨k0, k1, k2⟩ := id K13
        obtain ⟨l0, l1, l2⟩ := id K17
        go_wp2_with fail
        refine (sameFlights_any a6 _ m c6 c' M _ hm HS6.out (HS.out.below B)).mono ?_
        rintro e w7 ⟨rfl, hb⟩
        clear n0 n1 n2 k0 k1 k2 l0 l1 l2 K17
        replace N := N.below hb
        replace F6 := F6.below hb
        replace K13 := K13.below hb
        replace B := B.trans (hb.mono B.size)
        clear hb HS6
        obtain ⟨n0, n1, n2⟩ := id N
        obtain ⟨k0, k1, k2⟩ := id K13
        go_upto_region 19 with fail
        clear n0 n1 n2 k0 k1 k2 K13
        have hmn : ¬ m = 0 := by omega
        have hm0 : (m : Int) ≠ 0 := by omega
        have hmb : ((m : Int) == 0) = false := by simpa using hm0
        obtain ⟨n0, n1, n2⟩ := id N
        refine wp_region_held_drew (S := (fun w' => w'.cell? ⟨jp, 1, none⟩ = some (.slice (some ⟨g, 0, none⟩) m c'))) (by kernel_rfl) ?_ (fun hHeld => ?_)
        · first | exact n2 | (simp (maxDischargeDepth := 6) [go_sem, *]; done)
        clear n0 n1 n2
        replace N := N.drew
        replace F6 := F6.drew
        replace B := Below.drew B
        generalize w7.drew = v at *
        obtain ⟨n0, n1, n2⟩ := id N
        refine wpAnyH_take (i := 0) (v := ?_) (by rw [List.getElem?_toArray]; rfl) (by kernel_rfl) (by kernel_rfl) (by kernel_rfl) (by intro _ _ _ h; exact h) (Or.inl ⟨by rfl, ?_⟩) (by assumption) ?_
        rotate_left
        · (intro w hSw; (try dsimp only at hSw); go_simp; all_goals with_reducible rfl)
        (try simp only [Act.put, List.setIfInBounds_toArray, List.set_cons_zero, List.set_cons_succ])
        refine wpAnyH_take (i := 2) (v := ?_) (by rw [List.getElem?_toArray]; rfl) (by kernel_rfl) (by kernel_rfl) (by kernel_rfl) (by intro _ _ _ h; exact h) (Or.inl ⟨by rfl, ?_⟩) (by assumption) ?_
        rotate_left
        · (intro w hSw; (try dsimp only at hSw); go_simp; all_goals with_reducible rfl)
        (try simp only [Act.put, List.setIfInBounds_toArray, List.set_cons_zero, List.set_cons_succ])
        refine wpAnyH_take (i := 3) (v := ?_) (by rw [List.getElem?_toArray]; rfl) (by kernel_rfl) (by kernel_rfl) (by kernel_rfl) (by intro _ _ _ h; exact h) (Or.inl ⟨by rfl, ?_⟩) (by assumption) ?_
        rotate_left
        · (intro w hSw; (try dsimp only at hSw); go_simp; all_goals with_reducible rfl)
        (try simp only [Act.put, List.setIfInBounds_toArray, List.set_cons_zero, List.set_cons_succ])
        refine wpAnyH_take (i := 4) (v := ?_) (by rw [List.getElem?_toArray]; rfl) (by kernel_rfl) (by kernel_rfl) (by kernel_rfl) (by intro _ _ _ h; exact h) (Or.inl ⟨by rfl, ?_⟩) (by assumption) ?_
        rotate_left
        · (intro w hSw; (try dsimp only at hSw); go_simp; all_goals with_reducible rfl)
        (try simp only [Act.put, List.setIfInBounds_toArray, List.set_cons_zero, List.set_cons_succ])
        refine wpAnyH_ready (rs := [1]) (by kernel_rfl) (by simp) ?_
        refine (AllReadyH.cons (by rw [List.getElem?_toArray]; rfl) (fun K hK => ?_) AllReadyH.nil)
        go_simp
        refine (at_any _ _ _ 3 w.heap.size _ hn9 (by omega) (HC.out.below (B1.trans (B.mono hB1)))).mono ?_; rintro e w' ⟨x, rfl, xl, xh, rfl⟩; (obtain ⟨xn, rfl⟩ : ∃ xn : Nat, x = (xn : Int) := ⟨x.toNat, by omega⟩); (have ht : ((xn : Int).tmod (m : Int)) = ((xn % m : Nat) : Int) := by rw [Int.tmod_eq_emod_of_nonneg (by omega)]; rfl); (have hlm : xn % m < m := Nat.mod_lt _ (by omega))
        (try go_wp2_with fail)
        refine hK.out _ _ ?_ (fun hHeld => ?_)
        · first | exact n2 | (simp (maxDischargeDepth := 6) [go_sem, *]; done)
        clear hK K
        (try simp only [Act.put, List.setIfInBounds_toArray, List.set_cons_zero, List.set_cons_succ])
        refine wpAnyH_take (i := 5) (v := ?_) (by rw [List.getElem?_toArray]; rfl) (by kernel_rfl) (by kernel_rfl) (by kernel_rfl) (by intro _ _ _ h; exact h) (Or.inl ⟨by rfl, ?_⟩) (by assumption) ?_
        rotate_left
        · (intro w hSw; (try dsimp only at hSw); go_simp; all_goals with_reducible rfl)
        (try simp only [Act.put, List.setIfInBounds_toArray, List.set_cons_zero, List.set_cons_succ])
        refine wpAnyH_take (i := 6) (v := ?_) (by rw [List.getElem?_toArray]; rfl) (by kernel_rfl) (by kernel_rfl) (by kernel_rfl) (by intro _ _ _ h; exact h) (Or.inl ⟨by rfl, ?_⟩) (by assumption) ?_
        rotate_left
        · (intro w hSw; (try dsimp only at hSw); go_simp; all_goals with_reducible rfl)
        (try simp only [Act.put, List.setIfInBounds_toArray, List.set_cons_zero, List.set_cons_succ])
        refine wpAnyH_done (by kernel_rfl) ?_ _
        obtain ⟨l, hl⟩ : ∃ l, xn % m = l := ⟨_, rfl⟩
        have hxe : (xn : Int) % (m : Int) = ((l : Nat) : Int) := by rw [← hl]; rfl
        rw [hl] at hlm
        (try rw [hxe])
        clear n0 n1 n2 ht hl
        have HMV : Hid (MvIs X M m (k : Int) (l : Int) X m (insG (cutG M k) l (M k)) 0) := .inr (.inr ⟨hN, k, l, rfl, hk9, rfl, hlm, rfl, rfl, rfl, rfl⟩)
        have hN3 := netB_mv hN hk9 hlm
        have hk3 : fwf (insG (cutG M k) l (M k)) m := fun j hj => by rw [mv_at M hk9 hlm hj]; exact hk _ (mvP_lt hk9 hlm hj)
        have hto := mv_to M k l
        have hho := mv_home M hk9 hlm
        generalize insG (cutG M k) l (M k) = G3 at *
        obtain ⟨n0, n1, n2⟩ := id N
        (try go_wp2_with fail)
        refine (implNetMove_any X k l g m c' M X m G3 0 _ hmm (HCS.out _ B) HZ.out HW.out HMV.out).mono ?_
        rintro e w8 ⟨a8, c8, rfl, O8, hb⟩
        clear n0 n1 n2
        replace N := N.below hb
        replace F6 := F6.below hb
        replace B := B.trans (hb.mono B.size)
        clear hb
        have A1 := Below.nw w8 (.cells #[.int .i64 X, .slice a8 m c8] 26)
        have K20 := NB.new w8 X a8 m c8 26
        replace N := N.below A1
        replace F6 := F6.below A1
        replace O8 := own_belowF O8 A1
        replace B := B.trans (A1.mono B.size)
        clear A1
        go_upto_region 21 with fail
        generalize hO8 : w8.alloc (.cells #[.int .i64 X, .slice a8 m c8] 26) = v8 at *
        clear hO8
        obtain ⟨j8, hj8⟩ : ∃ j8, w8.heap.size = j8 := ⟨_, rfl⟩
        rw [hj8] at K20
        rw [hj8]
        obtain ⟨g8, rfl, CS8⟩ : ∃ g8, a8 = some ⟨g8, 0, none⟩ ∧ Cs v8 g8 0 (m * 5) (MFFlight G3) := by
          rcases own_cs O8 with ⟨_, h0, _⟩ | h
          · omega
          · exact h
        have HM2 : Hid (MvIs X G3 m (l : Int) (k : Int) X m (insG (cutG G3 l) k (G3 l)) 0) := .inr (.inr ⟨hN3, l, k, rfl, hlm, rfl, hk9, rfl, rfl, rfl, rfl⟩)
        have HD2 : Hid (∀ i, i < m → ((G3 i).2.2.2.1).size ≤ maxLen) := fun i hi => by have := (hk3 i hi).2; unfold maxLen; omega
        have HD3 : Hid (∀ i, i < m → (Lit.int .i64 (G3 i).1).wf = true) := fun i hi => (hk3 i hi).1
        have HC8 : Hid (Cs v8 g8 0 (m * 5) (MFFlight G3)) := CS8
        obtain ⟨k0, k1, k2⟩ := id K20
        go_wp2_with fail
        refine (implNetMove_any X l k g8 m c8 G3 X m _ 0 _ hmm HC8.out HD2.out HD3.out HM2.out).mono ?_
        rintro e w9 ⟨a9, c9, rfl, O9, hb⟩
        rw [hto] at O9
        rw [frow_congr hho] at O9
        clear k0 k1 k2 O8 HC8 HM2 HD2 HD3
        have hEL : G3 l = (y0, y1, y2, y3, y4) := hto.trans hY9.symm
        replace N := N.below hb
        replace F6 := F6.below hb
        replace K20 := K20.below hb
        replace CS8 := CS8.below hb CS8.1
        replace B := B.trans (hb.mono B.size)
        clear hb
        have hO9 : w9.heap.size ≤ w9.heap.size := Nat.le_refl _
        have A1 := Below.nw w9 (.cells #[.int .i64 X, .slice a9 m c9] 26)
        have K22 := NB.new w9 X a9 m c9 26
        replace N := N.below A1
        replace F6 := F6.below A1
        replace K20 := K20.below A1
        replace CS8 := CS8.below A1 CS8.1
        replace O9 := own_belowF O9 A1
        replace B := B.trans (A1.mono B.size)
        clear A1 hO9
        go_upto_region 22 with fail
        generalize hO9 : w9.alloc (.cells #[.int .i64 X, .slice a9 m c9] 26) = v9 at *
        clear hO9
        obtain ⟨j9, hj9⟩ : ∃ j9, w9.heap.size = j9 := ⟨_, rfl⟩
        rw [hj9] at K22
        rw [hj9]
        have hli : (l : Int) < (m : Int) := by omega
        (obtain ⟨n0, n1, n2⟩ := id N)
        (obtain ⟨k0, k1, k2⟩ := id K20)
        (obtain ⟨l0, l1, l2⟩ := id K22)
        (obtain ⟨p0, p1, p2, p3, p4, p5, p6, p7, p8, p9, p10⟩ := id F6)
        (obtain ⟨t0, t1, t2, t3, t4⟩ := Cs.elFlight CS8 hlm hEL)
        (simp only [Nat.zero_add] at t0 t1 t2 t3 t4)
        refine wp_region_held_drew (S := (fun w' => (w'.cell? ⟨jp, 1, none⟩ = some (.slice (some ⟨g, 0, none⟩) m c') ∧ w'.cell? ⟨j8, 1, none⟩ = some (.slice (some ⟨g8, 0, none⟩) m c8) ∧ w'.cell? ⟨j9, 1, none⟩ = some (.slice a9 m c9)) ∧ (w'.cell? ⟨j2 + 1, 0, none⟩ = some (.int .i64 y0) ∧ w'.cell? ⟨j2 + 1, 1, none⟩ = some (.int .i64 y1) ∧ w'.cell? ⟨j2 + 1, 2, none⟩ = some (.int .i64 y2) ∧ w'.cell? ⟨j2 + 1, 3, none⟩ = some (.string y3) ∧ w'.cell? ⟨j2 + 1, 4, none⟩ = some (.int .i64 y4)) ∧ (w'.cell? ⟨g8, l * 5, none⟩ = some (.int .i64 y0) ∧ w'.cell? ⟨g8, l * 5 + 1, none⟩ = some (.int .i64 y1) ∧ w'.cell? ⟨g8, l * 5 + 2, none⟩ = some (.int .i64 y2) ∧ w'.cell? ⟨g8, l * 5 + 3, none⟩ = some (.string y3) ∧ w'.cell? ⟨g8, l * 5 + 4, none⟩ = some (.int .i64 y4)))) (by kernel_rfl) ?_ (fun hHeld => ?_)
        · first | exact ⟨⟨n2, k2, l2⟩, ⟨p1, p2, p3, p4, p5⟩, ⟨t0, t1, t2, t3, t4⟩⟩ | trivial | (simp (maxDischargeDepth := 6) [go_sem, *]; done)
        clear n0 n1 n2 k0 k1 k2 l0 l1 l2 p0 p1 p2 p3 p4 p5 p6 p7 p8 p9 p10 t0 t1 t2 t3 t4
        replace N := N.drew
        replace K20 := K20.drew
        replace K22 := K22.drew
        replace F6 := F6.drew
        replace CS8 := CS8.drew
        replace B := Below.drew B
        have O9 : (World.drew v9).ownsRow v8.heap.size 30 5 (.slice a9 m c9) m (frow M m) := O9
        generalize v9.drew = v9 at *
        (obtain ⟨n0, n1, n2⟩ := id N)
        (obtain ⟨k0, k1, k2⟩ := id K20)
        (obtain ⟨l0, l1, l2⟩ := id K22)
        (obtain ⟨p0, p1, p2, p3, p4, p5, p6, p7, p8, p9, p10⟩ := id F6)
        (obtain ⟨t0, t1, t2, t3, t4⟩ := Cs.elFlight CS8 hlm hEL)
        (simp only [Nat.zero_add] at t0 t1 t2 t3 t4)
        refine wpAnyH_take (i := 0) (v := ?_) (by rw [List.getElem?_toArray]; rfl) (by kernel_rfl) (by kernel_rfl) (by kernel_rfl) (by intro _ _ _ h; exact h) (Or.inl ⟨by rfl, ?_⟩) (by assumption) ?_
        rotate_left
        · (intro w hSw; (try dsimp only at hSw); go_simp; all_goals with_reducible rfl)
        (try simp only [Act.put, List.setIfInBounds_toArray, List.set_cons_zero, List.set_cons_succ])
        refine wpAnyH_take (i := 1) (v := ?_) (by rw [List.getElem?_toArray]; rfl) (by kernel_rfl) (by kernel_rfl) (by kernel_rfl) (by intro _ _ _ h; exact h) (Or.inl ⟨by rfl, ?_⟩) (by assumption) ?_
        rotate_left
        · (intro w hSw; (try dsimp only at hSw); go_simp; all_goals with_reducible rfl)
        (try simp only [Act.put, List.setIfInBounds_toArray, List.set_cons_zero, List.set_cons_succ])
        refine wpAnyH_take (i := 2) (v := ?_) (by rw [List.getElem?_toArray]; rfl) (by kernel_rfl) (by kernel_rfl) (by kernel_rfl) (by intro _ _ _ h; exact h) (Or.inl ⟨by rfl, ?_⟩) (by assumption) ?_
        rotate_left
        · (intro w hSw; (try dsimp only at hSw); go_simp; all_goals with_reducible rfl)
        (try simp only [Act.put, List.setIfInBounds_toArray, List.set_cons_zero, List.set_cons_succ])
        refine wpAnyH_take (i := 3) (v := ?_) (by rw [List.getElem?_toArray]; rfl) (by kernel_rfl) (by kernel_rfl) (by kernel_rfl) (by intro _ _ _ h; exact h) (Or.inl ⟨by rfl, ?_⟩) (by assumption) ?_
        rotate_left
        · (intro w hSw; (try dsimp only at hSw); go_simp; all_goals with_reducible rfl)
        (try simp only [Act.put, List.setIfInBounds_toArray, List.set_cons_zero, List.set_cons_succ])
        refine wpAnyH_take (i := 4) (v := ?_) (by rw [List.getElem?_toArray]; rfl) (by kernel_rfl) (by kernel_rfl) (by kernel_rfl) (by intro _ _ _ h; exact h) (Or.inl ⟨by rfl, ?_⟩) (by assumption) ?_
        rotate_left
        · (intro w hSw; (try dsimp only at hSw); go_simp; all_goals with_reducible rfl)
        (try simp only [Act.put, List.setIfInBounds_toArray, List.set_cons_zero, List.set_cons_succ])
        refine wpAnyH_take (i := 5) (v := ?_) (by rw [List.getElem?_toArray]; rfl) (by kernel_rfl) (by kernel_rfl) (by kernel_rfl) (by intro _ _ _ h; exact h) (Or.inl ⟨by rfl, ?_⟩) (by assumption) ?_
        rotate_left
        · (intro w hSw; (try dsimp only at hSw); go_simp; all_goals with_reducible rfl)
        (try simp only [Act.put, List.setIfInBounds_toArray, List.set_cons_zero, List.set_cons_succ])
        refine wpAnyH_take (i := 6) (v := ?_) (by rw [List.getElem?_toArray]; rfl) (by kernel_rfl) (by kernel_rfl) (by kernel_rfl) (by intro _ _ _ h; exact h) (Or.inl ⟨by rfl, ?_⟩) (by assumption) ?_
        rotate_left
        · (intro w hSw; (try dsimp only at hSw); go_simp; all_goals with_reducible rfl)
        (try simp only [Act.put, List.setIfInBounds_toArray, List.set_cons_zero, List.set_cons_succ])
        refine wpAnyH_take (i := 7) (v := ?_) (by rw [List.getElem?_toArray]; rfl) (by kernel_rfl) (by kernel_rfl) (by kernel_rfl) (by intro _ _ _ h; exact h) (Or.inl ⟨by rfl, ?_⟩) (by assumption) ?_
        rotate_left
        · (intro w hSw; (try dsimp only at hSw); go_simp; all_goals with_reducible rfl)
        (try simp only [Act.put, List.setIfInBounds_toArray, List.set_cons_zero, List.set_cons_succ])
        refine wpAnyH_take (i := 8) (v := ?_) (by rw [List.getElem?_toArray]; rfl) (by kernel_rfl) (by kernel_rfl) (by kernel_rfl) (by intro _ _ _ h; exact h) (Or.inl ⟨by rfl, ?_⟩) (by assumption) ?_
        rotate_left
        · (intro w hSw; (try dsimp only at hSw); go_simp; all_goals with_reducible rfl)
        (try simp only [Act.put, List.setIfInBounds_toArray, List.set_cons_zero, List.set_cons_succ])
        refine wpAnyH_take (i := 9) (v := ?_) (by rw [List.getElem?_toArray]; rfl) (by kernel_rfl) (by kernel_rfl) (by kernel_rfl) (by intro _ _ _ h; exact h) (Or.inl ⟨by rfl, ?_⟩) (by assumption) ?_
        rotate_left
        · (intro w hSw; (try dsimp only at hSw); go_simp; all_goals with_reducible rfl)
        (try simp only [Act.put, List.setIfInBounds_toArray, List.set_cons_zero, List.set_cons_succ])
        refine wpAnyH_take (i := 10) (v := ?_) (by rw [List.getElem?_toArray]; rfl) (by kernel_rfl) (by kernel_rfl) (by kernel_rfl) (by intro _ _ _ h; exact h) (Or.inl ⟨by rfl, ?_⟩) (by assumption) ?_
        rotate_left
        · (intro w hSw; (try dsimp only at hSw); go_simp; all_goals with_reducible rfl)
        (try simp only [Act.put, List.setIfInBounds_toArray, List.set_cons_zero, List.set_cons_succ])
        refine wpAnyH_take (i := 11) (v := ?_) (by rw [List.getElem?_toArray]; rfl) (by kernel_rfl) (by kernel_rfl) (by kernel_rfl) (by intro _ _ _ h; exact h) (Or.inl ⟨by rfl, ?_⟩) (by assumption) ?_
        rotate_left
        · (intro w hSw; (try dsimp only at hSw); go_simp; all_goals with_reducible rfl)
        (try simp only [Act.put, List.setIfInBounds_toArray, List.set_cons_zero, List.set_cons_succ])
        refine wpAnyH_take (i := 12) (v := ?_) (by rw [List.getElem?_toArray]; rfl) (by kernel_rfl) (by kernel_rfl) (by kernel_rfl) (by intro _ _ _ h; exact h) (Or.inl ⟨by rfl, ?_⟩) (by assumption) ?_
        rotate_left
        · (intro w hSw; (try dsimp only at hSw); go_simp; all_goals with_reducible rfl)
        (try simp only [Act.put, List.setIfInBounds_toArray, List.set_cons_zero, List.set_cons_succ])
        refine wpAnyH_take (i := 13) (v := ?_) (by rw [List.getElem?_toArray]; rfl) (by kernel_rfl) (by kernel_rfl) (by kernel_rfl) (by intro _ _ _ h; exact h) (Or.inl ⟨by rfl, ?_⟩) (by assumption) ?_
        rotate_left
        · (intro w hSw; (try dsimp only at hSw); go_simp; all_goals with_reducible rfl)
        (try simp only [Act.put, List.setIfInBounds_toArray, List.set_cons_zero, List.set_cons_succ])
        refine wpAnyH_take (i := 14) (v := ?_) (by rw [List.getElem?_toArray]; rfl) (by kernel_rfl) (by kernel_rfl) (by kernel_rfl) (by intro _ _ _ h; exact h) (Or.inl ⟨by rfl, ?_⟩) (by assumption) ?_
        rotate_left
        · (intro w hSw; (try dsimp only at hSw); go_simp; all_goals with_reducible rfl)
        (try simp only [Act.put, List.setIfInBounds_toArray, List.set_cons_zero, List.set_cons_succ])
        refine wpAnyH_take (i := 15) (v := ?_) (by rw [List.getElem?_toArray]; rfl) (by kernel_rfl) (by kernel_rfl) (by kernel_rfl) (by intro _ _ _ h; exact h) (Or.inl ⟨by rfl, ?_⟩) (by assumption) ?_
        rotate_left
        · (intro w hSw; (try dsimp only at hSw); go_simp; all_goals with_reducible rfl)
        (try simp only [Act.put, List.setIfInBounds_toArray, List.set_cons_zero, List.set_cons_succ])
        refine wpAnyH_take (i := 16) (v := ?_) (by rw [List.getElem?_toArray]; rfl) (by kernel_rfl) (by kernel_rfl) (by kernel_rfl) (by intro _ _ _ h; exact h) (Or.inl ⟨by rfl, ?_⟩) (by assumption) ?_
        rotate_left
        · (intro w hSw; (try dsimp only at hSw); go_simp; all_goals with_reducible rfl)
        (try simp only [Act.put, List.setIfInBounds_toArray, List.set_cons_zero, List.set_cons_succ])
        refine wpAnyH_take (i := 17) (v := ?_) (by rw [List.getElem?_toArray]; rfl) (by kernel_rfl) (by kernel_rfl) (by kernel_rfl) (by intro _ _ _ h; exact h) (Or.inl ⟨by rfl, ?_⟩) (by assumption) ?_
        rotate_left
        · (intro w hSw; (try dsimp only at hSw); go_simp; all_goals with_reducible rfl)
        (try simp only [Act.put, List.setIfInBounds_toArray, List.set_cons_zero, List.set_cons_succ])
        refine wpAnyH_take (i := 18) (v := ?_) (by rw [List.getElem?_toArray]; rfl) (by kernel_rfl) (by kernel_rfl) (by kernel_rfl) (by intro _ _ _ h; exact h) (Or.inl ⟨by rfl, ?_⟩) (by assumption) ?_
        rotate_left
        · (intro w hSw; (try dsimp only at hSw); go_simp; all_goals with_reducible rfl)
        (try simp only [Act.put, List.setIfInBounds_toArray, List.set_cons_zero, List.set_cons_succ])
        refine wpAnyH_take (i := 19) (v := ?_) (by rw [List.getElem?_toArray]; rfl) (by kernel_rfl) (by kernel_rfl) (by kernel_rfl) (by intro _ _ _ h; exact h) (Or.inl ⟨by rfl, ?_⟩) (by assumption) ?_
        rotate_left
        · (intro w hSw; (try dsimp only at hSw); go_simp; all_goals with_reducible rfl)
        (try simp only [Act.put, List.setIfInBounds_toArray, List.set_cons_zero, List.set_cons_succ])
        refine wpAnyH_ready (rs := [20]) (by kernel_rfl) (by simp) ?_
        refine (AllReadyH.cons (by rw [List.getElem?_toArray]; rfl) (fun K hK => ?_) AllReadyH.nil)
        go_simp
        refine (sameFlights_any a9 _ m c9 c' M _ hm (own_srcF O9) (HS.out.below B)).mono ?_; rintro e v9 ⟨rfl, hb⟩; clear n0 n1 n2 k0 k1 k2 l0 l1 l2 p0 p1 p2 p3 p4 p5 p6 p7 p8 p9 p10 t0 t1 t2 t3 t4; (replace N := N.below hb); (replace K20 := K20.below hb); (replace K22 := K22.below hb); (replace F6 := F6.below hb); (replace CS8 := CS8.below hb CS8.1); (replace B := B.trans (hb.mono B.size)); clear hb O9; (obtain ⟨n0, n1, n2⟩ := id N); (obtain ⟨k0, k1, k2⟩ := id K20); (obtain ⟨l0, l1, l2⟩ := id K22); (obtain ⟨p0, p1, p2, p3, p4, p5, p6, p7, p8, p9, p10⟩ := id F6); (obtain ⟨t0, t1, t2, t3, t4⟩ := Cs.elFlight CS8 hlm hEL); (simp only [Nat.zero_add] at t0 t1 t2 t3 t4)
        (try go_wp2_with fail)
        refine hK.out _ _ ?_ (fun hHeld => ?_)
        · first | exact ⟨⟨n2, k2, l2⟩, ⟨p1, p2, p3, p4, p5⟩, ⟨t0, t1, t2, t3, t4⟩⟩ | trivial | (simp (maxDischargeDepth := 6) [go_sem, *]; done)
        clear hK K
        (try simp only [Act.put, List.setIfInBounds_toArray, List.set_cons_zero, List.set_cons_succ])
        refine wpAnyH_take (i := 21) (v := ?_) (by rw [List.getElem?_toArray]; rfl) (by kernel_rfl) (by kernel_rfl) (by kernel_rfl) (by intro _ _ _ h; exact h) (Or.inl ⟨by rfl, ?_⟩) (by assumption) ?_
        rotate_left
        · (intro w hSw; (try dsimp only at hSw); go_simp; all_goals with_reducible rfl)
        (try simp only [Act.put, List.setIfInBounds_toArray, List.set_cons_zero, List.set_cons_succ])
        refine wpAnyH_take (i := 22) (v := ?_) (by rw [List.getElem?_toArray]; rfl) (by kernel_rfl) (by kernel_rfl) (by kernel_rfl) (by intro _ _ _ h; exact h) (Or.inl ⟨by rfl, ?_⟩) (by assumption) ?_
        rotate_left
        · (intro w hSw; (try dsimp only at hSw); go_simp; all_goals with_reducible rfl)
        (try simp only [Act.put, List.setIfInBounds_toArray, List.set_cons_zero, List.set_cons_succ])
        refine wpAnyH_done (by kernel_rfl) ?_ _
        (try go_wp2_with fail)
        go_ret
        exact ⟨rfl, B1.trans (B.mono hB1)⟩
    · skip
      obtain ⟨n0, n1, n2⟩ := id N
      go_wp2_with fail
      refine (specNetTake0 nx i A m c' M X mm G y0 y1 y2 y3 y4 C _ hmm (HCH.out _ B) HZ.out hT hC).mono ?_
      rintro e w2 ⟨a2, c2, rfl, _, hb⟩
      clear n0 n1 n2
      replace N := N.below hb
      replace B := B.trans (hb.mono B.size)
      clear hb
      have A1 := Below.nw w2 (.cells #[.int .i64 X, .slice a2 mm c2] 26)
      have A2 := Below.nw (w2.alloc (.cells #[.int .i64 X, .slice a2 mm c2] 26)) (.cells #[.int .i64 y0, .int .i64 y1, .int .i64 y2, .string y3, .int .i64 y4] 30)
      have K5 := (NB.new w2 X a2 mm c2 26).below A2
      have F6 := F5.new (w2.alloc (.cells #[.int .i64 X, .slice a2 mm c2] 26)) y0 y1 y2 y3 y4 30
      replace N := (N.below A1).below A2
      replace B := B.trans (A1.mono B.size)
      replace B := B.trans (A2.mono B.size)
      simp only [World.size_alloc] at F6
      clear A1 A2
      go_upto_region 5 with fail
      generalize (w2.alloc (.cells #[.int .i64 X, .slice a2 mm c2] 26)).alloc (.cells #[.int .i64 y0, .int .i64 y1, .int .i64 y2, .string y3, .int .i64 y4] 30) = v2 at *
      generalize w2.heap.size = j2 at *
      obtain ⟨n0, n1, n2⟩ := id N
      go_wp2_with fail
      refine (implNetTake0 nx i A m c' M X mm G y0 y1 y2 y3 y4 C _ hmm (HS.out.below B) HZ.out HW.out hT hC).mono ?_
      rintro e w3 ⟨a3, c3, rfl, _, hb⟩
      clear n0 n1 n2
      replace N := N.below hb
      replace K5 := K5.below hb
      replace F6 := F6.below hb
      replace B := B.trans (hb.mono B.size)
      clear hb
      have A1 := Below.nw w3 (.cells #[.int .i64 X, .slice a3 mm c3] 26)
      have A2 := Below.nw (w3.alloc (.cells #[.int .i64 X, .slice a3 mm c3] 26)) (.cells #[.int .i64 y0, .int .i64 y1, .int .i64 y2, .string y3, .int .i64 y4] 30)
      have K8 := (NB.new w3 X a3 mm c3 26).below A2
      have F9 := F5.new (w3.alloc (.cells #[.int .i64 X, .slice a3 mm c3] 26)) y0 y1 y2 y3 y4 30
      replace N := (N.below A1).below A2
      replace K5 := K5.below A1
      replace F6 := F6.below A1
      replace K5 := K5.below A2
      replace F6 := F6.below A2
      replace B := B.trans (A1.mono B.size)
      replace B := B.trans (A2.mono B.size)
      simp only [World.size_alloc] at F9
      clear A1 A2
      go_upto_region 6 with fail
      generalize (w3.alloc (.cells #[.int .i64 X, .slice a3 mm c3] 26)).alloc (.cells #[.int .i64 y0, .int .i64 y1, .int .i64 y2, .string y3, .int .i64 y4] 30) = v3 at *
      generalize w3.heap.size = j3 at *
      obtain ⟨k0, k1, k2⟩ := id K5
      obtain ⟨l0, l1, l2⟩ := id K8
      obtain ⟨p0, p1, p2, p3, p4, p5, p6, p7, p8, p9, p10⟩ := id F6
      obtain ⟨q0, q1, q2, q3, q4, q5, q6, q7, q8, q9, q10⟩ := id F9
      go_upto_region 8 with fail
      clear k0 k1 k2 l0 l1 l2 p0 p1 p2 p3 p4 p5 p6 p7 p8 p9 p10 q0 q1 q2 q3 q4 q5 q6 q7 q8 q9 q10 K5 K8 F9
      have hc0 : (C != 0) = true := by simpa using hC
      have hc1 : (C == 0) = false := by simpa using hC
      obtain ⟨n0, n1, n2⟩ := id N
      go_wp2_with fail
      refine (implNetDrop0 nx i A m c' M X mm G y0 y1 y2 y3 y4 C _ hmm (HS.out.below B) HZ.out HW.out hT hC).mono ?_
      rintro e w4 ⟨a4, c4, rfl, _, hb⟩
      clear n0 n1 n2 N F6
      replace B := B.trans (hb.mono B.size)
      have A1 := Below.nw w4 (.cells #[.int .i64 X, .slice a4 mm c4] 26)
      replace B := B.trans (A1.mono B.size)
      clear hb A1
      go_upto_region 10 with fail
      generalize w4.alloc (.cells #[.int .i64 X, .slice a4 mm c4] 26) = v4 at *
      go_wp2_with fail
      go_ret
      exact ⟨rfl, B1.trans (B.mono hB1)⟩
end Go.Proofs.Ytgfhcilhibbooaa
