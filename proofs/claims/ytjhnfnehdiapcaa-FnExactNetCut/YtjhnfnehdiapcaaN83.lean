/- What NetCut leaves; the contract of spec.NetCut. -/
import Derived.Test.YtjhnfnehdiapcaaN73
import Derived.Deep.RegionHeld3
import Derived.Deep.DeepCutAuto
import Derived.WalkKit
import Derived.WalkSpells
import Derived.WalkLawsBesides
import Derived.Deep.RegionHeld
namespace Go.Proofs.Ytjhnfnehdiapcaa
open Go.RowKit
set_option linter.unusedVariables false
def cuB (nd : Int) (f : FT) : Bool := decide (f.2.1 = nd ∨ f.2.2.1 = nd)
def kc (M : Nat → FT) (nd : Int) : Nat → Nat
  | 0 => 0
  | k + 1 => if cuB nd (M k) = true then kc M nd k else kc M nd k + 1
def kF (M : Nat → FT) (nd : Int) : Nat → Nat → FT
  | 0 => fun _ => zF
  | k + 1 => if cuB nd (M k) = true then kF M nd k else fun j => if j = kc M nd k then M k else kF M nd k j
theorem kc_cut {M : Nat → FT} {nd : Int} {k : Nat} (h : cuB nd (M k) = true) : kc M nd (k + 1) = kc M nd k ∧ kF M nd (k + 1) = kF M nd k := ⟨by rw [kc, if_pos h], by rw [kF, if_pos h]⟩
theorem kc_keep {M : Nat → FT} {nd : Int} {k : Nat} (h : cuB nd (M k) = false) : kc M nd (k + 1) = kc M nd k + 1 ∧ kF M nd (k + 1) = fun j => if j = kc M nd k then M k else kF M nd k j := ⟨by rw [kc, if_neg (by rw [h]; decide)], by rw [kF, if_neg (by rw [h]; decide)]⟩
theorem kc_le (M : Nat → FT) (nd : Int) (k : Nat) : kc M nd k ≤ k := by
  induction k with
  | zero => exact Nat.le_refl _
  | succ k ih => rw [kc]; split <;> omega
theorem kc_mono {M : Nat → FT} {nd : Int} {k n : Nat} (h : k ≤ n) : kc M nd k ≤ kc M nd n := by
  induction n with
  | zero => rw [show k = 0 by omega]; exact Nat.le_refl _
  | succ n ih =>
    by_cases e : k = n + 1
    · rw [e]; exact Nat.le_refl _
    · have := ih (by omega)
      rw [kc]; split <;> omega
theorem kF_at {M : Nat → FT} {nd : Int} {q : Nat} (hq : cuB nd (M q) = false) : ∀ {n : Nat}, q < n → kF M nd n (kc M nd q) = M q := by
  intro n
  induction n with
  | zero => intro h; exact absurd h (Nat.not_lt_zero _)
  | succ k ih =>
    intro h
    cases hc : cuB nd (M k)
    · rw [(kc_keep hc).2]
      by_cases e : q = k
      · subst e; simp
      · have h1 := kc_mono (M := M) (nd := nd) (show q + 1 ≤ k by omega)
        rw [(kc_keep hq).1] at h1
        show (if kc M nd q = kc M nd k then M k else kF M nd k (kc M nd q)) = _
        rw [if_neg (by omega)]
        exact ih (by omega)
    · rw [(kc_cut hc).2]
      refine ih ?_
      by_cases e : q = k
      · subst e; rw [hq] at hc; cases hc
      · omega
theorem frow_keep {M : Nat → FT} {nd : Int} {k : Nat} {x0 x1 x2 : Int} {x3 : ByteArray} {x4 : Int} (h : cuB nd (M k) = false) (hM : M k = (x0, x1, x2, x3, x4)) : frow (kF M nd k) (kc M nd k) ++ [.int .i64 x0, .int .i64 x1, .int .i64 x2, .string x3, .int .i64 x4] = frow (kF M nd (k + 1)) (kc M nd k + 1) := by
  have e := (kc_keep h).2
  rw [frow_congr (G := kF M nd k) (H := kF M nd (k + 1)) (fun j hj => by rw [e]; show _ = (if j = kc M nd k then M k else kF M nd k j); rw [if_neg (by omega)])]
  exact frow_add (by rw [e]; show (if kc M nd k = kc M nd k then M k else _) = _; rw [if_pos rfl]; exact hM)
/- The program takes from the end on. -/
def bG (M : Nat → FT) (nd : Int) (n : Nat) : Nat → Nat × (Nat → FT)
  | 0 => (n, M)
  | d + 1 => if cuB nd (M (n - 1 - d)) = true then ((bG M nd n d).1 - 1, cutG (bG M nd n d).2 (n - 1 - d)) else bG M nd n d
theorem bG_ok (M : Nat → FT) (nd : Int) (n : Nat) : ∀ d, d ≤ n → (bG M nd n d).1 = (n - d) + (kc M nd n - kc M nd (n - d)) ∧ (∀ j, j < n - d → (bG M nd n d).2 j = M j) ∧ (∀ j, n - d ≤ j → j < (bG M nd n d).1 → (bG M nd n d).2 j = kF M nd n (kc M nd (n - d) + (j - (n - d)))) := by
  intro d
  induction d with
  | zero => intro _; exact ⟨by simp [bG], fun j _ => rfl, fun j h1 h2 => by simp [bG] at h1 h2; omega⟩
  | succ d ih =>
    intro hd
    obtain ⟨i1, i2, i3⟩ := ih (by omega)
    obtain ⟨q, hq⟩ : ∃ q, q = n - 1 - d := ⟨_, rfl⟩
    have e1 : n - d = q + 1 := by omega
    have e2 : n - (d + 1) = q := by omega
    rw [e1] at i1 i2 i3
    rw [e2, bG, ← hq]
    have hmo := kc_mono (M := M) (nd := nd) (show q + 1 ≤ n by omega)
    cases hc : cuB nd (M q)
    · rw [if_neg (by decide)]
      have hk := (kc_keep hc).1
      rw [hk] at i1 i3 hmo
      refine ⟨by rw [i1]; omega, fun j hj => i2 j (by omega), fun j h1 h2 => ?_⟩
      by_cases e : j = q
      · subst e
        rw [i2 j (by omega), show j - j = 0 by omega, Nat.add_zero]
        exact (kF_at hc (by omega)).symm
      · rw [i3 j (by omega) h2]
        congr 1
        omega
    · rw [if_pos rfl]
      have hk := (kc_cut hc).1
      rw [hk] at i1 i3 hmo
      refine ⟨by show (bG M nd n d).1 - 1 = _; rw [i1]; omega, fun j hj => by show cutG _ _ _ = _; rw [cutG, if_pos hj]; exact i2 j (by omega), fun j h1 h2 => ?_⟩
      show cutG _ _ _ = _
      rw [cutG, if_neg (by omega), i3 (j + 1) (by omega) (by simp only at h2; omega)]
      congr 1
      omega
theorem bG_end (M : Nat → FT) (nd : Int) (n : Nat) : (bG M nd n n).1 = kc M nd n ∧ ∀ j, j < kc M nd n → (bG M nd n n).2 j = kF M nd n j := by
  obtain ⟨i1, _, i3⟩ := bG_ok M nd n n (Nat.le_refl _)
  rw [Nat.sub_self] at i1 i3
  have z : kc M nd 0 = 0 := rfl
  rw [z] at i1 i3
  exact ⟨by omega, fun j hj => by rw [i3 j (Nat.zero_le _) (by omega)]; congr 1; omega⟩
set_option maxHeartbeats 4000000 in
theorem specNetCut_bad (nx nd : Int) (b n c : Nat) (M : Nat → FT) (w : World) (hm : n ≤ maxLen) (hf : Cs w b 0 (n * 5) (MFFlight M)) (hs : ∀ i, i < n → ((M i).2.2.2.1).size ≤ maxLen) (h : netB nx M n = false) :
    Calls Try.prog 32 #[.agg #[.int .i64 nx, .slice (some ⟨b, 0, none⟩) n c], .int .i64 nd] w fun e w' => e = .returned (.agg #[.int .i64 0, .slice none 0 0]) ∧ Below w.heap.size w w' := by
  have R1 := B2.new (w.alloc (.cells #[.int .i64 nx, .slice (some ⟨b, 0, none⟩) n c] 26)) (.int .i64 0) (.slice none 0 0) 26
  have A1 := Below.nw w (.cells #[.int .i64 nx, .slice (some ⟨b, 0, none⟩) n c] 26)
  have B := A1.alloc A1.size (.cells #[.int .i64 0, .slice none 0 0] 26)
  have CO := fun w' (h' : Cs w' b 0 (n * 5) (MFFlight M)) => specNetOk_any nx (some ⟨b, 0, none⟩) n c M w' hm (.inr ⟨b, 0, rfl, h'⟩) hs
  rw [h] at CO
  have CS := hf.below B hf.1
  simp only [World.size_alloc] at R1
  clear hf A1 h
  go_enter Try.func32, Try.ntmps32
  go_wp2_with fail
  refine (CO _ CS).mono ?_
  rintro e v ⟨rfl, hb⟩
  replace B := B.trans (hb.mono B.size)
  obtain ⟨r0, r1, r2, r3, r4⟩ := R1.below hb
  clear hb CO CS R1
  go_wp2_with fail
  have PB1 := ((But.refl (w.heap.size + 1) v).setCell 0 (.int .i64 0)).setCell 1 (.slice none 0 0)
  exact bodyPost_ret (v := .agg #[.int .i64 0, .slice none 0 0]) (by simp (maxDischargeDepth := 6) [results, Try.results32, go_sem, *]) rfl ⟨rfl, B.trans (PB1.below (by omega) B.size)⟩
def CuInv (nx nd : Int) (M : Nat → FT) (w : World) (b n c jo k : Nat) (wr : World) : Prop := ∃ vk : Value, B2 wr jo (.int .i64 nx) vk ∧ wr.ownsRow (jo + 1) 30 5 vk (kc M nd k) (frow (kF M nd k) (kc M nd k)) ∧ NB wr w.heap.size nx (some ⟨b, 0, none⟩) n c ∧ B2 wr (w.heap.size + 1) (.int .i64 0) (.slice none 0 0) ∧ Cs wr b 0 (n * 5) (MFFlight M) ∧ Below w.heap.size w wr
set_option maxRecDepth 100000 in
set_option maxHeartbeats 4000000 in
theorem specNetCut_done (nx nd : Int) (b n c : Nat) (M : Nat → FT) (w : World) (hm : n ≤ maxLen) (hf : Cs w b 0 (n * 5) (MFFlight M)) (hs : ∀ i, i < n → ((M i).2.2.2.1).size ≤ maxLen) (h : netB nx M n = true) :
    Calls Try.prog 32 #[.agg #[.int .i64 nx, .slice (some ⟨b, 0, none⟩) n c], .int .i64 nd] w fun e w' => ∃ a' c', e = .returned (.agg #[.int .i64 nx, .slice a' (kc M nd n) c']) ∧ w'.ownsRow w.heap.size 30 5 (.slice a' (kc M nd n) c') (kc M nd n) (frow (kF M nd n) (kc M nd n)) ∧ Below w.heap.size w w' := by
  have hn40 := netB_n h
  obtain ⟨i0, hi, hz0, hz1, hz2⟩ := infoF_parts
  have N := (NB.new w nx (some ⟨b, 0, none⟩) n c 26).below (Below.nw _ (.cells #[.int .i64 0, .slice none 0 0] 26))
  have R1 := B2.new (w.alloc (.cells #[.int .i64 nx, .slice (some ⟨b, 0, none⟩) n c] 26)) (.int .i64 0) (.slice none 0 0) 26
  have A1 := Below.nw w (.cells #[.int .i64 nx, .slice (some ⟨b, 0, none⟩) n c] 26)
  have B := A1.alloc A1.size (.cells #[.int .i64 0, .slice none 0 0] 26)
  have CO := fun w' (h' : Cs w' b 0 (n * 5) (MFFlight M)) => specNetOk_any nx (some ⟨b, 0, none⟩) n c M w' hm (.inr ⟨b, 0, rfl, h'⟩) hs
  rw [h] at CO
  have CS := hf.below B hf.1
  have hbw := hf.1
  simp only [World.size_alloc] at R1
  clear hf A1 h hs
  go_enter Try.func32, Try.ntmps32
  go_wp2_with fail
  refine (CO _ CS).mono ?_
  rintro e v ⟨rfl, hb⟩
  replace B := B.trans (hb.mono B.size)
  replace N := N.below hb
  replace R1 := R1.below hb
  replace CS := CS.below hb CS.1
  clear hb CO
  have A3 := Below.nw v (.cells #[.int .i64 nx, .slice none 0 0] 26)
  have O := B2.new v (.int .i64 nx) (.slice none 0 0) 26
  obtain ⟨n0, n1, n2⟩ := id N
  go_wp2_with fail
  have hjo : w.heap.size + 1 < v.heap.size := R1.1
  replace B := B.trans (A3.mono B.size)
  replace N := N.below A3
  replace R1 := R1.below A3
  replace CS := CS.below A3 CS.1
  have W0 : (v.alloc (.cells #[.int .i64 nx, .slice none 0 0] 26)).ownsRow (v.heap.size + 1) 30 5 (.slice none 0 0) (kc M nd 0) (frow (kF M nd 0) (kc M nd 0)) := World.ownsRow_nil _ _ _ _
  clear A3 n0 n1 n2
  generalize v.heap.size = jo at *
  generalize v.alloc (.cells #[.int .i64 nx, .slice none 0 0] 26) = v1 at *
  go_loopw [6] (fun s8 wr => ∃ k : Nat, k ≤ n ∧ s8 = .int .i64 (k : Int) ∧ CuInv nx nd M w b n c jo k wr) (fun s8 _ => n - (intOf s8).toNat)
  case atStart => exact ⟨0, Nat.zero_le _, rfl, _, O, W0, N, R1, CS, B⟩
  case round =>
    clear O W0 N R1 CS B
    obtain ⟨k, hk, rfl, vk, O, W, N, R1, CS, B⟩ := hrel
    obtain ⟨n0, n1, n2⟩ := id N
    obtain ⟨o0, o1, o2, o3, o4⟩ := id O
    by_cases hlt : k < n
    · have hli : decide ((k : Int) < (n : Int)) = true := decide_eq_true (by omega)
      obtain ⟨x0, x1, x2, x3, x4, hM⟩ := tupFlight M k
      obtain ⟨c0, c1, c2, c3, c4⟩ := CS.elFlight hlt hM
      rw [Nat.zero_add] at c0 c1 c2 c3 c4
      by_cases h1 : x1 = nd
      · have hc : cuB nd (M k) = true := by rw [hM]; exact decide_eq_true (.inl h1)
        obtain ⟨e1, e2⟩ := kc_cut hc
        have HE1 : Hid (kc M nd (k + 1) = kc M nd k) := e1
        have HE2 : Hid (kF M nd (k + 1) = kF M nd k) := e2
        subst h1
        clear e1 e2 hc hM
        go_wp2_with fail
        go_roundw
        case rel => exact ⟨k + 1, by omega, by go_num, vk, O, by rw [HE1.out, HE2.out]; exact W, N, R1, CS, B⟩
        case measure => simp [intOf]; omega
      have d1 : decide (x1 = nd) = false := decide_eq_false h1
      have d1' : (x1 == nd) = false := by simp [h1]
      have d1n : (x1 != nd) = true := by simp [h1]
      by_cases h2 : x2 = nd
      · have hc : cuB nd (M k) = true := by rw [hM]; exact decide_eq_true (.inr h2)
        obtain ⟨e1, e2⟩ := kc_cut hc
        have HE1 : Hid (kc M nd (k + 1) = kc M nd k) := e1
        have HE2 : Hid (kF M nd (k + 1) = kF M nd k) := e2
        subst h2
        clear e1 e2 hc hM
        go_wp2_with fail
        go_roundw
        case rel => exact ⟨k + 1, by omega, by go_num, vk, O, by rw [HE1.out, HE2.out]; exact W, N, R1, CS, B⟩
        case measure => simp [intOf]; omega
      have d2 : decide (x2 = nd) = false := decide_eq_false h2
      have d2' : (x2 == nd) = false := by simp [h2]
      have d2n : (x2 != nd) = true := by simp [h2]
      have hc : cuB nd (M k) = false := by rw [hM]; exact decide_eq_false (fun q => q.elim h1 h2)
      have HW : Hid (frow (kF M nd k) (kc M nd k) ++ [.int .i64 x0, .int .i64 x1, .int .i64 x2, .string x3, .int .i64 x4] = frow (kF M nd (k + 1)) (kc M nd k + 1)) := frow_keep hc hM
      have HEN : Hid (kc M nd (k + 1) = kc M nd k + 1) := (kc_keep hc).1
      have hcl := kc_le M nd k
      clear hM hc
      generalize kc M nd k = q at *
      go_wp2_with fail
      have hbj : b < jo + 1 := by omega
      refine wp_region_held_drew (S := (fun w' => w'.cell? ⟨w.heap.size, 1, none⟩ = some (.slice (some ⟨b, 0, none⟩) n c) ∧ w'.cell? ⟨b, k * 5, none⟩ = some (.int .i64 x0) ∧ w'.cell? ⟨b, k * 5 + 1, none⟩ = some (.int .i64 x1) ∧ w'.cell? ⟨b, k * 5 + 2, none⟩ = some (.int .i64 x2) ∧ w'.cell? ⟨b, k * 5 + 3, none⟩ = some (.string x3) ∧ w'.cell? ⟨b, k * 5 + 4, none⟩ = some (.int .i64 x4))) (by kernel_rfl) ?_ (fun hHeld => ?_)
      · first | exact ⟨n2, c0, c1, c2, c3, c4⟩ | (simp (maxDischargeDepth := 6) [go_sem, *]; done)
      clear n0 n1 n2 o0 o1 o2 o3 o4
      replace N := N.drew
      replace O := O.drew
      replace R1 := R1.drew
      replace B := Below.drew B
      replace CS := CS.drew
      replace W := World.ownsRow.drew W
      replace c0 : wr.drew.cell? _ = _ := c0
      replace c1 : wr.drew.cell? _ = _ := c1
      replace c2 : wr.drew.cell? _ = _ := c2
      replace c3 : wr.drew.cell? _ = _ := c3
      replace c4 : wr.drew.cell? _ = _ := c4
      generalize wr.drew = v at *
      (obtain ⟨n0, n1, n2⟩ := id N); (obtain ⟨o0, o1, o2, o3, o4⟩ := id O)
      refine wpAnyH_take (i := 0) (v := ?_) (by rw [List.getElem?_toArray]; rfl) (by kernel_rfl) (by kernel_rfl) (by kernel_rfl) (by intro _ _ _ h; exact h) (Or.inl ⟨by rfl, ?_⟩) (by assumption) ?_
      rotate_left
      · (intro w hSw; (try dsimp only at hSw); go_simp; all_goals with_reducible rfl)
      (try simp only [Act.put, List.setIfInBounds_toArray, List.set_cons_zero, List.set_cons_succ])
      refine wpAnyH_take (i := 2) (v := ?_) (by rw [List.getElem?_toArray]; rfl) (by kernel_rfl) (by kernel_rfl) (by kernel_rfl) (by intro _ _ _ h; exact h) (Or.inl ⟨by rfl, ?_⟩) (by assumption) ?_
      rotate_left
      · (intro w hSw; (try dsimp only at hSw); go_simp; all_goals with_reducible rfl)
      (try simp only [Act.put, List.setIfInBounds_toArray, List.set_cons_zero, List.set_cons_succ])
      refine wpAnyH_take (i := 3) (v := ?_) (by rw [List.getElem?_toArray]; rfl) (by kernel_rfl) (by kernel_rfl) (by kernel_rfl) (by intro _ _ _ h; exact h) (Or.inl ⟨by rfl, ?_⟩) (by assumption) ?_
      rotate_left
      · (intro w hSw; (try dsimp only at hSw); go_simp; all_goals with_reducible rfl)
      (try simp only [Act.put, List.setIfInBounds_toArray, List.set_cons_zero, List.set_cons_succ])
      refine wpAnyH_take (i := 4) (v := ?_) (by rw [List.getElem?_toArray]; rfl) (by kernel_rfl) (by kernel_rfl) (by kernel_rfl) (by intro _ _ _ h; exact h) (Or.inl ⟨by rfl, ?_⟩) (by assumption) ?_
      rotate_left
      · (intro w hSw; (try dsimp only at hSw); go_simp; all_goals with_reducible rfl)
      (try simp only [Act.put, List.setIfInBounds_toArray, List.set_cons_zero, List.set_cons_succ])
      refine wpAnyH_take (i := 5) (v := ?_) (by rw [List.getElem?_toArray]; rfl) (by kernel_rfl) (by kernel_rfl) (by kernel_rfl) (by intro _ _ _ h; exact h) (Or.inl ⟨by rfl, ?_⟩) (by assumption) ?_
      rotate_left
      · (intro w hSw; (try dsimp only at hSw); go_simp; all_goals with_reducible rfl)
      (try simp only [Act.put, List.setIfInBounds_toArray, List.set_cons_zero, List.set_cons_succ])
      refine wpAnyH_take (i := 6) (v := ?_) (by rw [List.getElem?_toArray]; rfl) (by kernel_rfl) (by kernel_rfl) (by kernel_rfl) (by intro _ _ _ h; exact h) (Or.inl ⟨by rfl, ?_⟩) (by assumption) ?_
      rotate_left
      · (intro w hSw; (try dsimp only at hSw); go_simp; all_goals with_reducible rfl)
      (try simp only [Act.put, List.setIfInBounds_toArray, List.set_cons_zero, List.set_cons_succ])
      refine wpAnyH_ready (rs := [1, 7]) (by kernel_rfl) (by simp) ?_
      refine (AllReadyH.cons (by rw [List.getElem?_toArray]; rfl) (fun K hK => ?_) (AllReadyH.cons (by rw [List.getElem?_toArray]; rfl) (fun K hK => ?_) AllReadyH.nil))
      · go_simp
        refine hK.out _ _ ?_ (fun hHeld => ?_)
        · first | exact ⟨n2, c0, c1, c2, c3, c4⟩ | (simp (maxDischargeDepth := 6) [go_sem, *]; done)
        clear hK K
        (try simp only [Act.put, List.setIfInBounds_toArray, List.set_cons_zero, List.set_cons_succ])
        refine wpAnyH_ready (rs := [7]) (by kernel_rfl) (by simp) ?_
        refine (AllReadyH.cons (by rw [List.getElem?_toArray]; rfl) (fun K hK => ?_) AllReadyH.nil)
        go_simp
        (have A := Below.nw v (.cells #[.int .i64 x0, .int .i64 x1, .int .i64 x2, .string x3, .int .i64 x4] 30)); (have hvz : jo + 1 ≤ v.heap.size := o0); (have HF : Hid (∀ j u, [Value.int .i64 x0, .int .i64 x1, .int .i64 x2, .string x3, .int .i64 x4][j]? = some u → (v.alloc (.cells #[.int .i64 x0, .int .i64 x1, .int .i64 x2, .string x3, .int .i64 x4] 30)).cell? ((⟨v.heap.size, 0, none⟩ : Addr).add j) = some u) := fun j u hu => five_at v x0 x1 x2 x3 x4 30 j u hu); clear n0 n1 n2 o0 o1 o2 o3 o4; (replace c0 := (A.cell (p := ⟨b, k * 5, none⟩) CS.1).trans c0); (replace c1 := (A.cell (p := ⟨b, k * 5 + 1, none⟩) CS.1).trans c1); (replace c2 := (A.cell (p := ⟨b, k * 5 + 2, none⟩) CS.1).trans c2); (replace c3 := (A.cell (p := ⟨b, k * 5 + 3, none⟩) CS.1).trans c3); (replace c4 := (A.cell (p := ⟨b, k * 5 + 4, none⟩) CS.1).trans c4); (replace N := N.below A); (replace O := O.below A); (replace R1 := R1.below A); (replace W := World.ownsRow.alloc W (.cells #[.int .i64 x0, .int .i64 x1, .int .i64 x2, .string x3, .int .i64 x4] 30)); (replace CS := CS.below A CS.1); (replace B := B.trans (A.mono B.size)); (have hsz : jo + 1 ≤ (v.alloc (.cells #[.int .i64 x0, .int .i64 x1, .int .i64 x2, .string x3, .int .i64 x4] 30)).heap.size := Nat.le_trans hvz A.size); (have hcsz := CS.1); clear A; (generalize v.alloc (.cells #[.int .i64 x0, .int .i64 x1, .int .i64 x2, .string x3, .int .i64 x4] 30) = v2 at *); (generalize v.heap.size = jv at *); (obtain ⟨n0, n1, n2⟩ := id N); (obtain ⟨o0, o1, o2, o3, o4⟩ := id O)
        refine hK.out _ _ ?_ (fun hHeld => ?_)
        · first | exact ⟨n2, c0, c1, c2, c3, c4⟩ | (simp (maxDischargeDepth := 6) [go_sem, *]; done)
        clear hK K
        (try simp only [Act.put, List.setIfInBounds_toArray, List.set_cons_zero, List.set_cons_succ])
        refine wpAnyH_ready (rs := [8]) (by kernel_rfl) (by simp) ?_
        refine (AllReadyH.cons (by rw [List.getElem?_toArray]; rfl) (fun K hK => ?_) AllReadyH.nil)
        rw [if_pos (by rfl)]; refine wp_append_own _ _ _ 24 rfl (jo + 1) 30 i0 (.agg #[.int .i64 0, .int .i64 0, .int .i64 0, .string ⟨#[]⟩, .int .i64 0]) 5 48 Try.underlying24 hi hz0 hz1 hz2 rfl (by decide) _ _ _ rfl W ⟨jv, 0, none⟩ 1 1 [.int .i64 x0, .int .i64 x1, .int .i64 x2, .string x3, .int .i64 x4] rfl rfl HF.out (five_one _ _ _ _ _) (by unfold maxLen; omega) (by omega) hsz ?_; intro v' wn hown' hgrow _; (have G := grown_belowF W hgrow hsz); clear n0 n1 n2 o0 o1 o2 o3 o4; (replace c0 := (G.cell (p := ⟨b, k * 5, none⟩) hbj).trans c0); (replace c1 := (G.cell (p := ⟨b, k * 5 + 1, none⟩) hbj).trans c1); (replace c2 := (G.cell (p := ⟨b, k * 5 + 2, none⟩) hbj).trans c2); (replace c3 := (G.cell (p := ⟨b, k * 5 + 3, none⟩) hbj).trans c3); (replace c4 := (G.cell (p := ⟨b, k * 5 + 4, none⟩) hbj).trans c4); (replace N := N.belowB G (by omega)); (replace O := O.belowB G (by omega)); (replace R1 := R1.belowB G (by omega)); (replace CS := CS.below G hbj); (replace B := B.trans (G.mono (by omega))); rw [HW.out] at hown'; (obtain ⟨a', c', rfl, _, _, _⟩ := ownF_src hown'); clear hgrow HF; (obtain ⟨n0, n1, n2⟩ := id N); (obtain ⟨o0, o1, o2, o3, o4⟩ := id O)
        refine hK.out _ _ ?_ (fun hHeld => ?_)
        · first | exact ⟨n2, c0, c1, c2, c3, c4⟩ | (simp (maxDischargeDepth := 6) [go_sem, *]; done)
        clear hK K
        (try simp only [Act.put, List.setIfInBounds_toArray, List.set_cons_zero, List.set_cons_succ])
        refine wpAnyH_take (i := 9) (v := ?_) (by rw [List.getElem?_toArray]; rfl) (by kernel_rfl) (by kernel_rfl) (by kernel_rfl) (by intro _ _ _ h; exact h) (Or.inl ⟨by rfl, ?_⟩) (by assumption) ?_
        rotate_left
        · (intro w hSw; (try dsimp only at hSw); go_simp; all_goals with_reducible rfl)
        (try simp only [Act.put, List.setIfInBounds_toArray, List.set_cons_zero, List.set_cons_succ])
        refine wpAnyH_ready (rs := [10]) (by kernel_rfl) (by simp) ?_
        refine (AllReadyH.cons (by rw [List.getElem?_toArray]; rfl) (fun K hK => ?_) AllReadyH.nil)
        go_simp
        refine hK.out _ _ ?_ (fun hHeld => ?_)
        · first | exact ⟨n2, c0, c1, c2, c3, c4⟩ | (simp (maxDischargeDepth := 6) [go_sem, *]; done)
        clear hK K
        (try simp only [Act.put, List.setIfInBounds_toArray, List.set_cons_zero, List.set_cons_succ])
        refine wpAnyH_done (by kernel_rfl) ?_ _
        go_wp2_with fail
        have PB := But.one wn jo 1 (.slice a' (q + 1) c')
        go_roundw
        case rel => exact ⟨k + 1, by omega, by go_num, _, O.set1 _, (by rw [HEN.out]; exact own_butF hown' PB (by omega)), N.but PB (by omega), R1.but PB (by omega), CS.but PB (by omega), B.trans (PB.below (by omega) B.size)⟩
        case measure => simp [intOf]; omega
      · go_simp
        (have A := Below.nw v (.cells #[.int .i64 x0, .int .i64 x1, .int .i64 x2, .string x3, .int .i64 x4] 30)); (have hvz : jo + 1 ≤ v.heap.size := o0); (have HF : Hid (∀ j u, [Value.int .i64 x0, .int .i64 x1, .int .i64 x2, .string x3, .int .i64 x4][j]? = some u → (v.alloc (.cells #[.int .i64 x0, .int .i64 x1, .int .i64 x2, .string x3, .int .i64 x4] 30)).cell? ((⟨v.heap.size, 0, none⟩ : Addr).add j) = some u) := fun j u hu => five_at v x0 x1 x2 x3 x4 30 j u hu); clear n0 n1 n2 o0 o1 o2 o3 o4; (replace c0 := (A.cell (p := ⟨b, k * 5, none⟩) CS.1).trans c0); (replace c1 := (A.cell (p := ⟨b, k * 5 + 1, none⟩) CS.1).trans c1); (replace c2 := (A.cell (p := ⟨b, k * 5 + 2, none⟩) CS.1).trans c2); (replace c3 := (A.cell (p := ⟨b, k * 5 + 3, none⟩) CS.1).trans c3); (replace c4 := (A.cell (p := ⟨b, k * 5 + 4, none⟩) CS.1).trans c4); (replace N := N.below A); (replace O := O.below A); (replace R1 := R1.below A); (replace W := World.ownsRow.alloc W (.cells #[.int .i64 x0, .int .i64 x1, .int .i64 x2, .string x3, .int .i64 x4] 30)); (replace CS := CS.below A CS.1); (replace B := B.trans (A.mono B.size)); (have hsz : jo + 1 ≤ (v.alloc (.cells #[.int .i64 x0, .int .i64 x1, .int .i64 x2, .string x3, .int .i64 x4] 30)).heap.size := Nat.le_trans hvz A.size); (have hcsz := CS.1); clear A; (generalize v.alloc (.cells #[.int .i64 x0, .int .i64 x1, .int .i64 x2, .string x3, .int .i64 x4] 30) = v2 at *); (generalize v.heap.size = jv at *); (obtain ⟨n0, n1, n2⟩ := id N); (obtain ⟨o0, o1, o2, o3, o4⟩ := id O)
        refine hK.out _ _ ?_ (fun hHeld => ?_)
        · first | exact ⟨n2, c0, c1, c2, c3, c4⟩ | (simp (maxDischargeDepth := 6) [go_sem, *]; done)
        clear hK K
        (try simp only [Act.put, List.setIfInBounds_toArray, List.set_cons_zero, List.set_cons_succ])
        refine wpAnyH_ready (rs := [1]) (by kernel_rfl) (by simp) ?_
        refine (AllReadyH.cons (by rw [List.getElem?_toArray]; rfl) (fun K hK => ?_) AllReadyH.nil)
        go_simp
        refine hK.out _ _ ?_ (fun hHeld => ?_)
        · first | exact ⟨n2, c0, c1, c2, c3, c4⟩ | (simp (maxDischargeDepth := 6) [go_sem, *]; done)
        clear hK K
        (try simp only [Act.put, List.setIfInBounds_toArray, List.set_cons_zero, List.set_cons_succ])
        refine wpAnyH_ready (rs := [8]) (by kernel_rfl) (by simp) ?_
        refine (AllReadyH.cons (by rw [List.getElem?_toArray]; rfl) (fun K hK => ?_) AllReadyH.nil)
        rw [if_pos (by rfl)]; refine wp_append_own _ _ _ 24 rfl (jo + 1) 30 i0 (.agg #[.int .i64 0, .int .i64 0, .int .i64 0, .string ⟨#[]⟩, .int .i64 0]) 5 48 Try.underlying24 hi hz0 hz1 hz2 rfl (by decide) _ _ _ rfl W ⟨jv, 0, none⟩ 1 1 [.int .i64 x0, .int .i64 x1, .int .i64 x2, .string x3, .int .i64 x4] rfl rfl HF.out (five_one _ _ _ _ _) (by unfold maxLen; omega) (by omega) hsz ?_; intro v' wn hown' hgrow _; (have G := grown_belowF W hgrow hsz); clear n0 n1 n2 o0 o1 o2 o3 o4; (replace c0 := (G.cell (p := ⟨b, k * 5, none⟩) hbj).trans c0); (replace c1 := (G.cell (p := ⟨b, k * 5 + 1, none⟩) hbj).trans c1); (replace c2 := (G.cell (p := ⟨b, k * 5 + 2, none⟩) hbj).trans c2); (replace c3 := (G.cell (p := ⟨b, k * 5 + 3, none⟩) hbj).trans c3); (replace c4 := (G.cell (p := ⟨b, k * 5 + 4, none⟩) hbj).trans c4); (replace N := N.belowB G (by omega)); (replace O := O.belowB G (by omega)); (replace R1 := R1.belowB G (by omega)); (replace CS := CS.below G hbj); (replace B := B.trans (G.mono (by omega))); rw [HW.out] at hown'; (obtain ⟨a', c', rfl, _, _, _⟩ := ownF_src hown'); clear hgrow HF; (obtain ⟨n0, n1, n2⟩ := id N); (obtain ⟨o0, o1, o2, o3, o4⟩ := id O)
        refine hK.out _ _ ?_ (fun hHeld => ?_)
        · first | exact ⟨n2, c0, c1, c2, c3, c4⟩ | (simp (maxDischargeDepth := 6) [go_sem, *]; done)
        clear hK K
        (try simp only [Act.put, List.setIfInBounds_toArray, List.set_cons_zero, List.set_cons_succ])
        refine wpAnyH_take (i := 9) (v := ?_) (by rw [List.getElem?_toArray]; rfl) (by kernel_rfl) (by kernel_rfl) (by kernel_rfl) (by intro _ _ _ h; exact h) (Or.inl ⟨by rfl, ?_⟩) (by assumption) ?_
        rotate_left
        · (intro w hSw; (try dsimp only at hSw); go_simp; all_goals with_reducible rfl)
        (try simp only [Act.put, List.setIfInBounds_toArray, List.set_cons_zero, List.set_cons_succ])
        refine wpAnyH_ready (rs := [10]) (by kernel_rfl) (by simp) ?_
        refine (AllReadyH.cons (by rw [List.getElem?_toArray]; rfl) (fun K hK => ?_) AllReadyH.nil)
        go_simp
        refine hK.out _ _ ?_ (fun hHeld => ?_)
        · first | exact ⟨n2, c0, c1, c2, c3, c4⟩ | (simp (maxDischargeDepth := 6) [go_sem, *]; done)
        clear hK K
        (try simp only [Act.put, List.setIfInBounds_toArray, List.set_cons_zero, List.set_cons_succ])
        refine wpAnyH_done (by kernel_rfl) ?_ _
        go_wp2_with fail
        have PB := But.one wn jo 1 (.slice a' (q + 1) c')
        go_roundw
        case rel => exact ⟨k + 1, by omega, by go_num, _, O.set1 _, (by rw [HEN.out]; exact own_butF hown' PB (by omega)), N.but PB (by omega), R1.but PB (by omega), CS.but PB (by omega), B.trans (PB.below (by omega) B.size)⟩
        case measure => simp [intOf]; omega
    · have hkn : k = n := by omega
      subst hkn
      have hli : decide ((k : Int) < (k : Int)) = false := decide_eq_false (by omega)
      obtain ⟨a', c', rfl, _, _, _⟩ := ownF_src W
      obtain ⟨r0, r1, r2, r3, r4⟩ := id R1
      go_wp2_with fail
      have PB1 := ((But.refl (w.heap.size + 1) wr).setCell 0 (.int .i64 nx)).setCell 1 (.slice a' (kc M nd k) c')
      exact bodyPost_ret (v := .agg #[.int .i64 nx, .slice a' (kc M nd k) c']) (by simp (maxDischargeDepth := 6) [results, Try.results32, go_sem, *]) rfl ⟨a', c', rfl, ownB_le (own_butF W PB1 (by omega)) (by omega), B.trans (PB1.below (by omega) B.size)⟩
end Go.Proofs.Ytjhnfnehdiapcaa
