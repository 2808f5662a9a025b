/- The contract of spec.Use. -/
import Derived.Test.YtcaelkpjkmpheaaC1
import Derived.Test.YtcaelkpjkmpheaaA5
import Derived.Test.YtcaelkpjkmpheaaD7
import Derived.Deep.RegionHeld3
import Derived.Deep.DeepCutAuto
import Derived.WalkKit
import Derived.WalkSpells
import Derived.WalkLawsBesides
import Derived.Deep.RegionHeld
namespace Go.Proofs.Ytcaelkpjkmpheaa
open Go.RowKit
set_option linter.unusedVariables false
theorem IB3.belB {w w' : World} {B j : Nat} {ep us : Int} {a : Option Addr} {n c : Nat} (h : IB3 w j ep us a n c) (hb : Below B w w') (hj : j < B) : IB3 w' j ep us a n c :=
  ⟨Nat.lt_of_lt_of_le h.1 hb.size, by rw [hb.cell (p := ⟨j, 0, none⟩) hj]; exact h.2.1, by rw [hb.cell (p := ⟨j, 1, none⟩) hj]; exact h.2.2.1, by rw [hb.cell (p := ⟨j, 2, none⟩) hj]; exact h.2.2.2⟩
theorem Bx3.belB {w w' : World} {B j : Nat} {u0 u1 u2 : Value} (h : Bx3 w j u0 u1 u2) (hb : Below B w w') (hj : j < B) : Bx3 w' j u0 u1 u2 := by
  obtain ⟨h0, h1, h2, h3, h4, h5, h6⟩ := h
  exact ⟨Nat.lt_of_lt_of_le h0 hb.size, by rw [hb.cell (p := ⟨j, 0, none⟩) hj]; exact h1, by rw [hb.cell (p := ⟨j, 1, none⟩) hj]; exact h2, by rw [hb.cell (p := ⟨j, 2, none⟩) hj]; exact h3, by rw [hb.frozen (p := ⟨j, 0, none⟩) hj]; exact h4, by rw [hb.frozen (p := ⟨j, 1, none⟩) hj]; exact h5, by rw [hb.frozen (p := ⟨j, 2, none⟩) hj]; exact h6⟩
def ctK (i k : Nat) : Nat := if k ≤ i then k else k - 1
theorem cutK_at {M : Nat → KT} {i k : Nat} (h : k ≠ i) : cutK M i (ctK i k) = M k ∧ ctK i (k + 1) = ctK i k + 1 := by
  unfold cutK ctK
  by_cases h1 : k ≤ i
  · rw [if_pos h1, if_pos (by omega), if_pos (by omega)]; exact ⟨rfl, rfl⟩
  · rw [if_neg h1, if_neg (by omega), if_neg (by omega)]
    exact ⟨by rw [show k - 1 + 1 = k by omega], by omega⟩
theorem ctK_same (i : Nat) : ctK i (i + 1) = ctK i i := by unfold ctK; rw [if_neg (by omega), if_pos (Nat.le_refl _)]; omega
theorem ctK_le (i k : Nat) : ctK i k ≤ k := by unfold ctK; split <;> omega
def fdK (M : Nat → KT) (i k : Nat) : KT := if k ≤ i then zK else M i
def cdK (i k : Nat) (cd : Int) : Int := if k ≤ i then 4 else cd
theorem fd_next {M : Nat → KT} {i k : Nat} {cd : Int} (h : k ≠ i) : fdK M i (k + 1) = fdK M i k ∧ cdK i (k + 1) cd = cdK i k cd := by
  unfold fdK cdK
  by_cases h1 : k ≤ i
  · rw [if_pos h1, if_pos (by omega), if_pos (by omega), if_pos h1]; exact ⟨rfl, rfl⟩
  · rw [if_neg h1, if_neg (by omega), if_neg (by omega), if_neg h1]; exact ⟨rfl, rfl⟩
theorem fd_here {M : Nat → KT} {i : Nat} {cd : Int} : fdK M i (i + 1) = M i ∧ cdK i (i + 1) cd = cd := by
  unfold fdK cdK
  exact ⟨if_neg (by omega), if_neg (by omega)⟩
def Bf4T (w : World) (j : Nat) (K : KT) : Prop := Bf4 w j K.1 K.2.1 K.2.2.1 K.2.2.2
def UsInv (ep us : Int) (M : Nat → KT) (w : World) (i : Nat) (ad : Addr) (n c bo k : Nat) (wr : World) : Prop := ∃ vk : Value, Bx3 wr bo (.int .i64 ep) (.int .i64 us) vk ∧ wr.ownsRow (bo + 2) 34 4 vk (ctK i k) (krow (cutK M i) (ctK i k)) ∧ Bf4T wr (bo + 1) (fdK M i k) ∧ IB3 wr w.heap.size ep us (some ad) n c ∧ Bx3 wr (w.heap.size + 1) (.int .i64 0) (.int .i64 0) (.slice none 0 0) ∧ Bf4 wr (w.heap.size + 1 + 1) 0 0 0 0 ∧ Froms wr ad M n ∧ Below w.heap.size w wr
set_option maxHeartbeats 8000000 in
theorem specUse_bad (ep us : Int) (ad : Addr) (n c : Nat) (M : Nat → KT) (x y : Int) (w : World) (hm : n ≤ maxLen) (hf : Froms w ad M n) (ht : tabB ep us M n = false) :
    Calls Try.prog 18 #[.agg #[.int .i64 ep, .int .i64 us, .slice (some ad) n c], .int .i64 x, .int .i64 y] w fun e w' => ∃ a' c', e = .returned (.tuple #[.agg #[.int .i64 0, .int .i64 0, .slice a' 0 c'], .agg #[.int .i64 0, .int .i64 0, .int .i64 0, .int .i64 0], .int .i64 1]) ∧ w'.ownsRow w.heap.size 34 4 (.slice a' 0 c') 0 (krow M 0) ∧ Below w.heap.size w w' := by
  have N := ((IB3.new w ep us (some ad) n c 26).below (Below.nw _ (.cells #[.int .i64 0, .int .i64 0, .slice none 0 0] 26))).below (Below.nw _ (.cells #[.int .i64 0, .int .i64 0, .int .i64 0, .int .i64 0] 34))
  have R := (Bx3.new (w.alloc (.cells #[.int .i64 ep, .int .i64 us, .slice (some ad) n c] 26)) (.int .i64 0) (.int .i64 0) (.slice none 0 0) 26).below (Below.nw _ (.cells #[.int .i64 0, .int .i64 0, .int .i64 0, .int .i64 0] 34))
  have R2 := Bf4.new ((w.alloc (.cells #[.int .i64 ep, .int .i64 us, .slice (some ad) n c] 26)).alloc (.cells #[.int .i64 0, .int .i64 0, .slice none 0 0] 26)) 0 0 0 0 34
  have CS := ((hf.below (Below.nw w (.cells #[.int .i64 ep, .int .i64 us, .slice (some ad) n c] 26))).below (Below.nw _ (.cells #[.int .i64 0, .int .i64 0, .slice none 0 0] 26))).below (Below.nw _ (.cells #[.int .i64 0, .int .i64 0, .int .i64 0, .int .i64 0] 34))
  have A1 := Below.nw w (.cells #[.int .i64 ep, .int .i64 us, .slice (some ad) n c] 26)
  have A2 := A1.alloc A1.size (.cells #[.int .i64 0, .int .i64 0, .slice none 0 0] 26)
  have B := A2.alloc A2.size (.cells #[.int .i64 0, .int .i64 0, .int .i64 0, .int .i64 0] 34)
  simp only [World.size_alloc] at R R2
  have C := specTab_any ep us (some ad) n c M _ hm CS.src
  clear hf A1 A2
  go_enter Try.func18, Try.ntmps18
  go_upto_region 1 with fail
  generalize ((w.alloc (.cells #[.int .i64 ep, .int .i64 us, .slice (some ad) n c] 26)).alloc (.cells #[.int .i64 0, .int .i64 0, .slice none 0 0] 26)).alloc (.cells #[.int .i64 0, .int .i64 0, .int .i64 0, .int .i64 0] 34) = wa at *
  have hJ1 : w.heap.size + 1 + 1 < wa.heap.size := R2.1.1
  obtain ⟨n9, n0, n1, n2⟩ := id N
  go_wp2_with fail
  refine C.mono ?_
  rintro e wz ⟨rfl, hb⟩
  clear n9 n0 n1 n2
  replace N := N.below hb
  replace R := R.below hb
  replace R2 := R2.below hb
  replace CS := CS.below hb
  replace B := B.trans (hb.mono B.size)
  have hzz := hb.size
  clear hb C
  rw [ht]
  have P1 := put3_butK wz (w.heap.size + 1) (.int .i64 0) (.int .i64 0) (.slice none 0 0)
  have RQ := R.set (.int .i64 0) (.int .i64 0) (.slice none 0 0)
  have P2 := put4_but (((wz.setCell ⟨w.heap.size + 1, 0, none⟩ (.int .i64 0)).setCell ⟨w.heap.size + 1, 1, none⟩ (.int .i64 0)).setCell ⟨w.heap.size + 1, 2, none⟩ (.slice none 0 0)) (w.heap.size + 1 + 1) 0 0 0 0
  have RQ2 := (R2.but P1 (by omega)).set 0 0 0 0
  replace RQ := RQ.but P2 (by omega)
  have BQ1 := B.trans (P1.below (B := w.heap.size) (by omega) B.size)
  have BQ := BQ1.trans (P2.below (B := w.heap.size) (by omega) BQ1.size)
  have OQ := World.ownsRow_nil (put4 (((wz.setCell ⟨w.heap.size + 1, 0, none⟩ (.int .i64 0)).setCell ⟨w.heap.size + 1, 1, none⟩ (.int .i64 0)).setCell ⟨w.heap.size + 1, 2, none⟩ (.slice none 0 0)) (w.heap.size + 1 + 1) 0 0 0 0) w.heap.size 34 4
  have KZ : Hid (World.ownsRow _ _ _ _ _ _ _ ∧ Below _ _ _) := ⟨OQ, BQ⟩
  obtain ⟨r0, r1, r2, r3, r4, r5, r6⟩ := R
  obtain ⟨⟨f0, f1, f2, f3, f4⟩, f5, f6, f7, f8⟩ := R2
  clear P1 P2 BQ1 BQ OQ
  unfold put4 at RQ RQ2 KZ
  go_wp2_with fail
  clear r0 r1 r2 r3 r4 r5 r6 f0 f1 f2 f3 f4 f5 f6 f7 f8
  generalize (((((((wz.setCell ⟨w.heap.size + 1, 0, none⟩ (.int .i64 0)).setCell ⟨w.heap.size + 1, 1, none⟩ (.int .i64 0)).setCell ⟨w.heap.size + 1, 2, none⟩ (.slice none 0 0)).setCell ⟨w.heap.size + 1 + 1, 0, none⟩ (.int .i64 0)).setCell ⟨w.heap.size + 1 + 1, 1, none⟩ (.int .i64 0)).setCell ⟨w.heap.size + 1 + 1, 2, none⟩ (.int .i64 0)).setCell ⟨w.heap.size + 1 + 1, 3, none⟩ (.int .i64 0)) = wq at *
  obtain ⟨q0, q1, q2, q3, -, -, -⟩ := RQ
  obtain ⟨⟨g0, g1, g2, g3, g4⟩, -, -, -, -⟩ := RQ2
  exact bodyPost_ret (v := .tuple #[.agg #[.int .i64 0, .int .i64 0, .slice none 0 0], .agg #[.int .i64 0, .int .i64 0, .int .i64 0, .int .i64 0], .int .i64 1]) (by simp (maxDischargeDepth := 6) [results, Try.results18, go_sem, q1, q2, q3, g1, g2, g3, g4]) rfl ⟨_, _, rfl, KZ.out.1, KZ.out.2⟩
set_option maxRecDepth 100000 in
set_option maxHeartbeats 16000000 in
theorem specUse_code (ep us : Int) (ad : Addr) (n c : Nat) (M : Nat → KT) (x y : Int) (w : World) (hm : n ≤ maxLen) (hf : Froms w ad M n) (i : Nat) (cd : Int) (ht : tabB ep us M n = true) (HO : Hid (∀ j, j < n → j ≠ i → (M j).1 ≠ x)) (HX : Hid (i < n → (M i).1 = x)) (HC : Hid (∀ z, z = (M i).2.1 → ((z != y) = true ∧ cd = 5) ∨ ((z != y) = false ∧ cd = 0))) (HBW : Hid (ad.block < w.heap.size)) (code : Int) (hcode : cdK i n cd = code) (hc0 : (code != 0) = true) :
    Calls Try.prog 18 #[.agg #[.int .i64 ep, .int .i64 us, .slice (some ad) n c], .int .i64 x, .int .i64 y] w fun e w' => ∃ a' c', e = .returned (.tuple #[.agg #[.int .i64 ep, .int .i64 us, .slice a' n c'], .agg #[.int .i64 0, .int .i64 0, .int .i64 0, .int .i64 0], .int .i64 code]) ∧ w'.ownsRow w.heap.size 34 4 (.slice a' n c') n (krow M n) ∧ Below w.heap.size w w' := by
  have hn16 := tabB_len' ht
  obtain ⟨i0, hi, hz0, hz1, hz2⟩ := infoK_parts
  have N := ((IB3.new w ep us (some ad) n c 26).below (Below.nw _ (.cells #[.int .i64 0, .int .i64 0, .slice none 0 0] 26))).below (Below.nw _ (.cells #[.int .i64 0, .int .i64 0, .int .i64 0, .int .i64 0] 34))
  have R := (Bx3.new (w.alloc (.cells #[.int .i64 ep, .int .i64 us, .slice (some ad) n c] 26)) (.int .i64 0) (.int .i64 0) (.slice none 0 0) 26).below (Below.nw _ (.cells #[.int .i64 0, .int .i64 0, .int .i64 0, .int .i64 0] 34))
  have R2 := Bf4.new ((w.alloc (.cells #[.int .i64 ep, .int .i64 us, .slice (some ad) n c] 26)).alloc (.cells #[.int .i64 0, .int .i64 0, .slice none 0 0] 26)) 0 0 0 0 34
  have CS := ((hf.below (Below.nw w (.cells #[.int .i64 ep, .int .i64 us, .slice (some ad) n c] 26))).below (Below.nw _ (.cells #[.int .i64 0, .int .i64 0, .slice none 0 0] 26))).below (Below.nw _ (.cells #[.int .i64 0, .int .i64 0, .int .i64 0, .int .i64 0] 34))
  have A1 := Below.nw w (.cells #[.int .i64 ep, .int .i64 us, .slice (some ad) n c] 26)
  have A2 := A1.alloc A1.size (.cells #[.int .i64 0, .int .i64 0, .slice none 0 0] 26)
  have B := A2.alloc A2.size (.cells #[.int .i64 0, .int .i64 0, .int .i64 0, .int .i64 0] 34)
  simp only [World.size_alloc] at R R2
  have C := specTab_any ep us (some ad) n c M _ hm CS.src
  clear hf A1 A2
  go_enter Try.func18, Try.ntmps18
  go_upto_region 1 with fail
  generalize ((w.alloc (.cells #[.int .i64 ep, .int .i64 us, .slice (some ad) n c] 26)).alloc (.cells #[.int .i64 0, .int .i64 0, .slice none 0 0] 26)).alloc (.cells #[.int .i64 0, .int .i64 0, .int .i64 0, .int .i64 0] 34) = wa at *
  have hJ1 : w.heap.size + 1 + 1 < wa.heap.size := R2.1.1
  obtain ⟨n9, n0, n1, n2⟩ := id N
  go_wp2_with fail
  refine C.mono ?_
  rintro e wz ⟨rfl, hb⟩
  clear n9 n0 n1 n2
  replace N := N.below hb
  replace R := R.below hb
  replace R2 := R2.below hb
  replace CS := CS.below hb
  replace B := B.trans (hb.mono B.size)
  have hzz := hb.size
  clear hb C
  rw [ht]
  clear ht
  have A3 := Below.nw wz (.cells #[.int .i64 ep, .int .i64 us, .slice none 0 0] 26)
  have A4 := Below.nw (wz.alloc (.cells #[.int .i64 ep, .int .i64 us, .slice none 0 0] 26)) (.cells #[.int .i64 0, .int .i64 0, .int .i64 0, .int .i64 0] 34)
  have O := (Bx3.new wz (.int .i64 ep) (.int .i64 us) (.slice none 0 0) 26).below A4
  have Fx := Bf4.new (wz.alloc (.cells #[.int .i64 ep, .int .i64 us, .slice none 0 0] 26)) 0 0 0 0 34
  simp only [World.size_alloc] at Fx
  obtain ⟨n9, n0, n1, n2⟩ := id N
  have hjo : w.heap.size + 1 + 1 < wz.heap.size := by omega
  go_upto_region 6 with fail
  clear n9 n0 n1 n2
  replace N := (N.below A3).below A4
  replace R := (R.below A3).below A4
  replace R2 := (R2.below A3).below A4
  replace CS := (CS.below A3).below A4
  replace B := (B.trans (A3.mono B.size)).trans (A4.mono (B.trans (A3.mono B.size)).size)
  clear A3 A4
  generalize wz.heap.size = bo at *
  generalize (wz.alloc (.cells #[.int .i64 ep, .int .i64 us, .slice none 0 0] 26)).alloc (.cells #[.int .i64 0, .int .i64 0, .int .i64 0, .int .i64 0] 34) = v1 at *
  go_wp2_with fail
  go_loopw [11, 12] (fun s11 s12 wr => ∃ k : Nat, k ≤ n ∧ s12 = .int .i64 (k : Int) ∧ s11 = .int .i64 (cdK i k cd) ∧ UsInv ep us M w i ad n c bo k wr) (fun _ s12 _ => n - (vI s12).toNat)
  case atStart =>
    refine ⟨0, Nat.zero_le _, rfl, ?_, _, O, ?_, ?_, N, R, R2, CS, B⟩
    · unfold cdK; rw [if_pos (Nat.zero_le _)]
    · have e : ctK i 0 = 0 := by simp [ctK]
      rw [e]; exact World.ownsRow_nil _ _ _ _
    · have e : fdK M i 0 = zK := if_pos (Nat.zero_le _)
      unfold Bf4T; rw [e]; exact Fx
  case round =>
    clear O Fx N R R2 CS B
    obtain ⟨k, hk, rfl, rfl, vk, O, W, Fx, N, R, R2, CS, B⟩ := hrel
    obtain ⟨n0, n1, n2, n3⟩ := id N
    obtain ⟨o0, o1, o2, o3, o4, o5, o6⟩ := id O
    by_cases hlt : k < n
    · have hli : decide ((k : Int) < (n : Int)) = true := decide_eq_true (by omega)
      obtain ⟨b, off, rfl, CZ⟩ : ∃ b off, ad = ⟨b, off, none⟩ ∧ Cs wr b off (n * 4) (MFAsk M) := by
        rcases CS with h | ⟨hs, h⟩
        · omega
        · obtain ⟨b, off, s⟩ := ad
          simp only at hs h
          subst hs
          exact ⟨b, off, rfl, h⟩
      obtain ⟨x0, x1, x2, x3, hM⟩ := tupAsk M k
      obtain ⟨c0, c1, c2, c3⟩ := CZ.elAsk hlt hM
      by_cases hki : k = i
      · subst hki
        have hx0 : Hid (x0 = x) := by have := HX.out hlt; rw [hM] at this; exact this
        have hx0' : (x0 != x) = false := by rw [hx0.out]; exact bne_self_eq_false _
        have e := ctK_same k
        have hb0 : b < w.heap.size := HBW.out
        have hbz := CZ.1
        have HFD : Hid (fdK M k (k + 1) = kT x0 x1 x2 x3) := (fd_here (M := M) (i := k) (cd := cd)).1.trans hM
        have HZ : Hid (x1 = (M k).2.1) := by rw [Hid, hM]
        have HCD : Hid (cdK k (k + 1) cd = cd) := (fd_here (M := M) (i := k) (cd := cd)).2
        have Fy : Bf4 (put4 wr (bo + 1) x0 x1 x2 x3) (bo + 1) x0 x1 x2 x3 := Bf4.set (show Bf4 wr (bo + 1) _ _ _ _ from Fx) x0 x1 x2 x3
        have P4 := put4_but wr (bo + 1) x0 x1 x2 x3
        obtain ⟨⟨u0, u1, u2, u3, u4⟩, u5, u6, u7, u8⟩ := id (show Bf4 wr (bo + 1) _ _ _ _ from Fx)
        have O' := O.but P4 (by omega)
        have W' := own_butK W P4 (by omega)
        have N' := N.but P4 (by omega)
        have R' := R.but P4 (by omega)
        have R2' := R2.but P4 (by omega)
        have CZ' := CZ.but P4 (by omega)
        have B' := B.trans (P4.below (B := w.heap.size) (by omega) B.size)
        have HK : Hid (UsInv ep us M w k ⟨b, off, none⟩ n c bo (k + 1) (put4 wr (bo + 1) x0 x1 x2 x3)) := ⟨vk, O', by rw [e]; exact W', by unfold Bf4T; rw [HFD.out]; exact Fy, N', R', R2', .inr ⟨rfl, CZ'⟩, B'⟩
        clear O' W' N' R' R2' CZ' B' W Fx N R R2 CZ CS B hM e O P4
        go_upto_region 11 with fail
        go_upto_region 12 with fail
        clear n0 n1 n2 n3 o0 o1 o2 o3 o4 o5 o6 c0 c1 c2 c3 u0 u1 u2 u3 u4 u5 u6 u7 u8
        unfold put4 at Fy HK
        generalize (((wr.setCell ⟨bo + 1, 0, none⟩ (.int .i64 x0)).setCell ⟨bo + 1, 1, none⟩ (.int .i64 x1)).setCell ⟨bo + 1, 2, none⟩ (.int .i64 x2)).setCell ⟨bo + 1, 3, none⟩ (.int .i64 x3) = wy at *
        obtain ⟨⟨g0, g1, g2, g3, g4⟩, -, -, -, -⟩ := Fy
        have hcd := HC.out x1 HZ.out
        rcases hcd with ⟨hyy, hcc⟩ | ⟨hyy, hcc⟩
        · have hy1 : (x1 != y) = true := hyy
          go_wp2_with fail
          go_roundw
          case rel => exact ⟨k + 1, by omega, by go_num, by rw [HCD.out, hcc], HK.out⟩
          case measure => simp [vI]; omega
        · have hy1 : (x1 != y) = false := hyy
          go_wp2_with fail
          go_roundw
          case rel => exact ⟨k + 1, by omega, by go_num, by rw [HCD.out, hcc], HK.out⟩
          case measure => simp [vI]; omega
      · have hne : (x0 != x) = true := by have := HO.out k hlt hki; rw [hM] at this; exact bne_iff_ne.2 this
        obtain ⟨ec, en⟩ := cutK_at (M := M) hki
        obtain ⟨ef, ed⟩ := fd_next (M := M) (cd := cd) hki
        have HW : Hid (krow (cutK M i) (ctK i k) ++ [.int .i64 x0, .int .i64 x1, .int .i64 x2, .int .i64 x3] = krow (cutK M i) (ctK i k + 1)) := krow_add (ec.trans hM)
        have hcl := ctK_le i k
        have HEN : Hid (ctK i (k + 1) = ctK i k + 1) := en
        have HEF : Hid (fdK M i (k + 1) = fdK M i k) := ef
        have HED : Hid (cdK i (k + 1) cd = cdK i k cd) := ed
        have hbz : b < bo := by (have hb0 : b < w.heap.size := HBW.out); omega
        have hbj : b < bo + 2 := by omega
        clear ec en ef ed hM CS
        generalize ctK i k = q at *
        generalize fdK M i k = fk at *
        generalize cdK i k cd = ck at *
        go_upto_region 10 with fail
        refine wp_region_held_drew (S := (fun w' => w'.cell? ⟨w.heap.size, 2, none⟩ = some (.slice (some ⟨b, off, none⟩) n c) ∧ w'.cell? ⟨b, off + k * 4, none⟩ = some (.int .i64 x0) ∧ w'.cell? ⟨b, off + k * 4 + 1, none⟩ = some (.int .i64 x1) ∧ w'.cell? ⟨b, off + k * 4 + 2, none⟩ = some (.int .i64 x2) ∧ w'.cell? ⟨b, off + k * 4 + 3, none⟩ = some (.int .i64 x3))) (by kernel_rfl) ?_ (fun hHeld => ?_)
        · first | exact ⟨n3, c0, c1, c2, c3⟩ | (simp (maxDischargeDepth := 6) [go_sem, *]; done)
        clear n0 n1 n2 n3 o0 o1 o2 o3 o4 o5 o6
        replace N := N.drew
        replace O := O.drew
        replace Fx : Bf4T wr.drew (bo + 1) fk := Fx
        replace R := R.drew
        replace R2 := R2.drew
        replace B := Below.drew B
        replace CZ := CZ.drew
        replace W := World.ownsRow.drew W
        replace c0 : wr.drew.cell? _ = _ := c0
        replace c1 : wr.drew.cell? _ = _ := c1
        replace c2 : wr.drew.cell? _ = _ := c2
        replace c3 : wr.drew.cell? _ = _ := c3
        generalize wr.drew = v at *
        (obtain ⟨n0, n1, n2, n3⟩ := id N); (obtain ⟨o0, o1, o2, o3, o4, o5, o6⟩ := id O)
        refine wpAnyH_take (i := 0) (v := ?_) (by rw [List.getElem?_toArray]; rfl) (by kernel_rfl) (by kernel_rfl) (by kernel_rfl) (by intro _ _ _ h; exact h) (Or.inl ⟨by rfl, ?_⟩) (by assumption) ?_
        rotate_left
        · (intro w hSw; (try dsimp only at hSw); go_simp; all_goals with_reducible rfl)
        (try simp only [Act.put, List.setIfInBounds_toArray, List.set_cons_zero, List.set_cons_succ])
        refine wpAnyH_take (i := 2) (v := ?_) (by rw [List.getElem?_toArray]; rfl) (by kernel_rfl) (by kernel_rfl) (by kernel_rfl) (by intro _ _ _ h; exact h) (Or.inl ⟨by rfl, ?_⟩) (by assumption) ?_
        rotate_left
        · (intro w hSw; (try dsimp only at hSw); go_simp; all_goals with_reducible rfl)
        (try simp only [Act.put, List.setIfInBounds_toArray, List.set_cons_zero, List.set_cons_succ])
        refine wpAnyH_take (i := 3) (v := ?_) (by rw [List.getElem?_toArray]; rfl) (by kernel_rfl) (by kernel_rfl) (by kernel_rfl) (by intro _ _ _ h; exact h) (Or.inl ⟨by rfl, ?_⟩) (by assumption) ?_
        rotate_left
        · (intro w hSw; (try dsimp only at hSw); go_simp; all_goals with_reducible rfl)
        (try simp only [Act.put, List.setIfInBounds_toArray, List.set_cons_zero, List.set_cons_succ])
        refine wpAnyH_take (i := 4) (v := ?_) (by rw [List.getElem?_toArray]; rfl) (by kernel_rfl) (by kernel_rfl) (by kernel_rfl) (by intro _ _ _ h; exact h) (Or.inl ⟨by rfl, ?_⟩) (by assumption) ?_
        rotate_left
        · (intro w hSw; (try dsimp only at hSw); go_simp; all_goals with_reducible rfl)
        (try simp only [Act.put, List.setIfInBounds_toArray, List.set_cons_zero, List.set_cons_succ])
        refine wpAnyH_take (i := 5) (v := ?_) (by rw [List.getElem?_toArray]; rfl) (by kernel_rfl) (by kernel_rfl) (by kernel_rfl) (by intro _ _ _ h; exact h) (Or.inl ⟨by rfl, ?_⟩) (by assumption) ?_
        rotate_left
        · (intro w hSw; (try dsimp only at hSw); go_simp; all_goals with_reducible rfl)
        (try simp only [Act.put, List.setIfInBounds_toArray, List.set_cons_zero, List.set_cons_succ])
        refine wpAnyH_take (i := 6) (v := ?_) (by rw [List.getElem?_toArray]; rfl) (by kernel_rfl) (by kernel_rfl) (by kernel_rfl) (by intro _ _ _ h; exact h) (Or.inl ⟨by rfl, ?_⟩) (by assumption) ?_
        rotate_left
        · (intro w hSw; (try dsimp only at hSw); go_simp; all_goals with_reducible rfl)
        (try simp only [Act.put, List.setIfInBounds_toArray, List.set_cons_zero, List.set_cons_succ])
        refine wpAnyH_ready (rs := [1, 7]) (by kernel_rfl) (by simp) ?_
        refine (AllReadyH.cons (by rw [List.getElem?_toArray]; rfl) (fun K hK => ?_) (AllReadyH.cons (by rw [List.getElem?_toArray]; rfl) (fun K hK => ?_) AllReadyH.nil))
        · go_simp
          refine hK.out _ _ ?_ (fun hHeld => ?_)
          · first | exact ⟨n3, c0, c1, c2, c3⟩ | (simp (maxDischargeDepth := 6) [go_sem, *]; done)
          clear hK K
          (try simp only [Act.put, List.setIfInBounds_toArray, List.set_cons_zero, List.set_cons_succ])
          refine wpAnyH_ready (rs := [7]) (by kernel_rfl) (by simp) ?_
          refine (AllReadyH.cons (by rw [List.getElem?_toArray]; rfl) (fun K hK => ?_) AllReadyH.nil)
          go_simp
          (have A := Below.nw v (.cells #[.int .i64 x0, .int .i64 x1, .int .i64 x2, .int .i64 x3] 34)); (have hvz : bo + 2 ≤ v.heap.size := Nat.succ_le_of_lt (show Bf4 v (bo + 1) _ _ _ _ from Fx).1.1); (have HF : Hid (∀ j u, [Value.int .i64 x0, .int .i64 x1, .int .i64 x2, .int .i64 x3][j]? = some u → (v.alloc (.cells #[.int .i64 x0, .int .i64 x1, .int .i64 x2, .int .i64 x3] 34)).cell? ((⟨v.heap.size, 0, none⟩ : Addr).add j) = some u) := fun j u hu => four_at v x0 x1 x2 x3 34 j u hu); clear n0 n1 n2 n3 o0 o1 o2 o3 o4 o5 o6; (replace c0 := (A.cell (p := ⟨b, off + k * 4, none⟩) CZ.1).trans c0); (replace c1 := (A.cell (p := ⟨b, off + k * 4 + 1, none⟩) CZ.1).trans c1); (replace c2 := (A.cell (p := ⟨b, off + k * 4 + 2, none⟩) CZ.1).trans c2); (replace c3 := (A.cell (p := ⟨b, off + k * 4 + 3, none⟩) CZ.1).trans c3); (replace N := N.below A); (replace O := O.below A); (replace Fx : Bf4T _ (bo + 1) fk := Bf4.below Fx A); (replace R := R.below A); (replace R2 := R2.below A); (replace W := World.ownsRow.alloc W (.cells #[.int .i64 x0, .int .i64 x1, .int .i64 x2, .int .i64 x3] 34)); (replace CZ := CZ.below A CZ.1); (replace B := B.trans (A.mono B.size)); (have hsz : bo + 2 ≤ (v.alloc (.cells #[.int .i64 x0, .int .i64 x1, .int .i64 x2, .int .i64 x3] 34)).heap.size := Nat.le_trans hvz A.size); (have hcsz := CZ.1); clear A; (generalize v.alloc (.cells #[.int .i64 x0, .int .i64 x1, .int .i64 x2, .int .i64 x3] 34) = v2 at *); (generalize v.heap.size = jv at *); (obtain ⟨n0, n1, n2, n3⟩ := id N); (obtain ⟨o0, o1, o2, o3, o4, o5, o6⟩ := id O)
          refine hK.out _ _ ?_ (fun hHeld => ?_)
          · first | exact ⟨n3, c0, c1, c2, c3⟩ | (simp (maxDischargeDepth := 6) [go_sem, *]; done)
          clear hK K
          (try simp only [Act.put, List.setIfInBounds_toArray, List.set_cons_zero, List.set_cons_succ])
          refine wpAnyH_ready (rs := [8]) (by kernel_rfl) (by simp) ?_
          refine (AllReadyH.cons (by rw [List.getElem?_toArray]; rfl) (fun K hK => ?_) AllReadyH.nil)
          rw [if_pos (by rfl)]; refine wp_append_own _ _ _ 24 rfl (bo + 2) 34 i0 (.agg #[.int .i64 0, .int .i64 0, .int .i64 0, .int .i64 0]) 4 32 Try.underlying24 hi hz0 hz1 hz2 rfl (by decide) _ _ _ rfl W ⟨jv, 0, none⟩ 1 1 [.int .i64 x0, .int .i64 x1, .int .i64 x2, .int .i64 x3] rfl rfl HF.out (four_one _ _ _ _) (by unfold maxLen; omega) (by omega) hsz ?_; intro v' wn hown' hgrow _; (have G := grown_belowK W hgrow hsz); clear n0 n1 n2 n3 o0 o1 o2 o3 o4 o5 o6; (replace c0 := (G.cell (p := ⟨b, off + k * 4, none⟩) hbj).trans c0); (replace c1 := (G.cell (p := ⟨b, off + k * 4 + 1, none⟩) hbj).trans c1); (replace c2 := (G.cell (p := ⟨b, off + k * 4 + 2, none⟩) hbj).trans c2); (replace c3 := (G.cell (p := ⟨b, off + k * 4 + 3, none⟩) hbj).trans c3); (replace N := N.belB G (by omega)); (replace O := O.belB G (by omega)); (replace Fx : Bf4T _ (bo + 1) fk := Bf4.bel Fx G (by omega)); (replace R := R.belB G (by omega)); (replace R2 := R2.bel G (by omega)); (replace CZ := CZ.below G (by omega)); (replace B := B.trans (G.mono (by omega))); rw [HW.out] at hown'; (obtain ⟨a', c', rfl, _, _, _⟩ := ownF_src hown'); clear hgrow HF; (obtain ⟨n0, n1, n2, n3⟩ := id N); (obtain ⟨o0, o1, o2, o3, o4, o5, o6⟩ := id O)
          refine hK.out _ _ ?_ (fun hHeld => ?_)
          · first | exact ⟨n3, c0, c1, c2, c3⟩ | (simp (maxDischargeDepth := 6) [go_sem, *]; done)
          clear hK K
          (try simp only [Act.put, List.setIfInBounds_toArray, List.set_cons_zero, List.set_cons_succ])
          refine wpAnyH_take (i := 9) (v := ?_) (by rw [List.getElem?_toArray]; rfl) (by kernel_rfl) (by kernel_rfl) (by kernel_rfl) (by intro _ _ _ h; exact h) (Or.inl ⟨by rfl, ?_⟩) (by assumption) ?_
          rotate_left
          · (intro w hSw; (try dsimp only at hSw); go_simp; all_goals with_reducible rfl)
          (try simp only [Act.put, List.setIfInBounds_toArray, List.set_cons_zero, List.set_cons_succ])
          refine wpAnyH_ready (rs := [10]) (by kernel_rfl) (by simp) ?_
          refine (AllReadyH.cons (by rw [List.getElem?_toArray]; rfl) (fun K hK => ?_) AllReadyH.nil)
          go_simp
          refine hK.out _ _ ?_ (fun hHeld => ?_)
          · first | exact ⟨n3, c0, c1, c2, c3⟩ | (simp (maxDischargeDepth := 6) [go_sem, *]; done)
          clear hK K
          (try simp only [Act.put, List.setIfInBounds_toArray, List.set_cons_zero, List.set_cons_succ])
          refine wpAnyH_done (by kernel_rfl) ?_ _
          go_wp2_with fail
          have PB := But.oneK wn bo 2 (.slice a' (q + 1) c')
          go_roundw
          case rel => exact ⟨k + 1, by omega, by go_num, by rw [HED.out], _, O.set2 _, (by rw [HEN.out]; exact own_butK hown' PB (by omega)), (by rw [HEF.out]; exact Bf4.but Fx PB (by omega)), N.but PB (by omega), R.but PB (by omega), R2.but PB (by omega), .inr ⟨rfl, CZ.but PB (by omega)⟩, B.trans (PB.below (by omega) B.size)⟩
          case measure => simp [vI]; omega
        · go_simp
          (have A := Below.nw v (.cells #[.int .i64 x0, .int .i64 x1, .int .i64 x2, .int .i64 x3] 34)); (have hvz : bo + 2 ≤ v.heap.size := Nat.succ_le_of_lt (show Bf4 v (bo + 1) _ _ _ _ from Fx).1.1); (have HF : Hid (∀ j u, [Value.int .i64 x0, .int .i64 x1, .int .i64 x2, .int .i64 x3][j]? = some u → (v.alloc (.cells #[.int .i64 x0, .int .i64 x1, .int .i64 x2, .int .i64 x3] 34)).cell? ((⟨v.heap.size, 0, none⟩ : Addr).add j) = some u) := fun j u hu => four_at v x0 x1 x2 x3 34 j u hu); clear n0 n1 n2 n3 o0 o1 o2 o3 o4 o5 o6; (replace c0 := (A.cell (p := ⟨b, off + k * 4, none⟩) CZ.1).trans c0); (replace c1 := (A.cell (p := ⟨b, off + k * 4 + 1, none⟩) CZ.1).trans c1); (replace c2 := (A.cell (p := ⟨b, off + k * 4 + 2, none⟩) CZ.1).trans c2); (replace c3 := (A.cell (p := ⟨b, off + k * 4 + 3, none⟩) CZ.1).trans c3); (replace N := N.below A); (replace O := O.below A); (replace Fx : Bf4T _ (bo + 1) fk := Bf4.below Fx A); (replace R := R.below A); (replace R2 := R2.below A); (replace W := World.ownsRow.alloc W (.cells #[.int .i64 x0, .int .i64 x1, .int .i64 x2, .int .i64 x3] 34)); (replace CZ := CZ.below A CZ.1); (replace B := B.trans (A.mono B.size)); (have hsz : bo + 2 ≤ (v.alloc (.cells #[.int .i64 x0, .int .i64 x1, .int .i64 x2, .int .i64 x3] 34)).heap.size := Nat.le_trans hvz A.size); (have hcsz := CZ.1); clear A; (generalize v.alloc (.cells #[.int .i64 x0, .int .i64 x1, .int .i64 x2, .int .i64 x3] 34) = v2 at *); (generalize v.heap.size = jv at *); (obtain ⟨n0, n1, n2, n3⟩ := id N); (obtain ⟨o0, o1, o2, o3, o4, o5, o6⟩ := id O)
          refine hK.out _ _ ?_ (fun hHeld => ?_)
          · first | exact ⟨n3, c0, c1, c2, c3⟩ | (simp (maxDischargeDepth := 6) [go_sem, *]; done)
          clear hK K
          (try simp only [Act.put, List.setIfInBounds_toArray, List.set_cons_zero, List.set_cons_succ])
          refine wpAnyH_ready (rs := [1]) (by kernel_rfl) (by simp) ?_
          refine (AllReadyH.cons (by rw [List.getElem?_toArray]; rfl) (fun K hK => ?_) AllReadyH.nil)
          go_simp
          refine hK.out _ _ ?_ (fun hHeld => ?_)
          · first | exact ⟨n3, c0, c1, c2, c3⟩ | (simp (maxDischargeDepth := 6) [go_sem, *]; done)
          clear hK K
          (try simp only [Act.put, List.setIfInBounds_toArray, List.set_cons_zero, List.set_cons_succ])
          refine wpAnyH_ready (rs := [8]) (by kernel_rfl) (by simp) ?_
          refine (AllReadyH.cons (by rw [List.getElem?_toArray]; rfl) (fun K hK => ?_) AllReadyH.nil)
          rw [if_pos (by rfl)]; refine wp_append_own _ _ _ 24 rfl (bo + 2) 34 i0 (.agg #[.int .i64 0, .int .i64 0, .int .i64 0, .int .i64 0]) 4 32 Try.underlying24 hi hz0 hz1 hz2 rfl (by decide) _ _ _ rfl W ⟨jv, 0, none⟩ 1 1 [.int .i64 x0, .int .i64 x1, .int .i64 x2, .int .i64 x3] rfl rfl HF.out (four_one _ _ _ _) (by unfold maxLen; omega) (by omega) hsz ?_; intro v' wn hown' hgrow _; (have G := grown_belowK W hgrow hsz); clear n0 n1 n2 n3 o0 o1 o2 o3 o4 o5 o6; (replace c0 := (G.cell (p := ⟨b, off + k * 4, none⟩) hbj).trans c0); (replace c1 := (G.cell (p := ⟨b, off + k * 4 + 1, none⟩) hbj).trans c1); (replace c2 := (G.cell (p := ⟨b, off + k * 4 + 2, none⟩) hbj).trans c2); (replace c3 := (G.cell (p := ⟨b, off + k * 4 + 3, none⟩) hbj).trans c3); (replace N := N.belB G (by omega)); (replace O := O.belB G (by omega)); (replace Fx : Bf4T _ (bo + 1) fk := Bf4.bel Fx G (by omega)); (replace R := R.belB G (by omega)); (replace R2 := R2.bel G (by omega)); (replace CZ := CZ.below G (by omega)); (replace B := B.trans (G.mono (by omega))); rw [HW.out] at hown'; (obtain ⟨a', c', rfl, _, _, _⟩ := ownF_src hown'); clear hgrow HF; (obtain ⟨n0, n1, n2, n3⟩ := id N); (obtain ⟨o0, o1, o2, o3, o4, o5, o6⟩ := id O)
          refine hK.out _ _ ?_ (fun hHeld => ?_)
          · first | exact ⟨n3, c0, c1, c2, c3⟩ | (simp (maxDischargeDepth := 6) [go_sem, *]; done)
          clear hK K
          (try simp only [Act.put, List.setIfInBounds_toArray, List.set_cons_zero, List.set_cons_succ])
          refine wpAnyH_take (i := 9) (v := ?_) (by rw [List.getElem?_toArray]; rfl) (by kernel_rfl) (by kernel_rfl) (by kernel_rfl) (by intro _ _ _ h; exact h) (Or.inl ⟨by rfl, ?_⟩) (by assumption) ?_
          rotate_left
          · (intro w hSw; (try dsimp only at hSw); go_simp; all_goals with_reducible rfl)
          (try simp only [Act.put, List.setIfInBounds_toArray, List.set_cons_zero, List.set_cons_succ])
          refine wpAnyH_ready (rs := [10]) (by kernel_rfl) (by simp) ?_
          refine (AllReadyH.cons (by rw [List.getElem?_toArray]; rfl) (fun K hK => ?_) AllReadyH.nil)
          go_simp
          refine hK.out _ _ ?_ (fun hHeld => ?_)
          · first | exact ⟨n3, c0, c1, c2, c3⟩ | (simp (maxDischargeDepth := 6) [go_sem, *]; done)
          clear hK K
          (try simp only [Act.put, List.setIfInBounds_toArray, List.set_cons_zero, List.set_cons_succ])
          refine wpAnyH_done (by kernel_rfl) ?_ _
          go_wp2_with fail
          have PB := But.oneK wn bo 2 (.slice a' (q + 1) c')
          go_roundw
          case rel => exact ⟨k + 1, by omega, by go_num, by rw [HED.out], _, O.set2 _, (by rw [HEN.out]; exact own_butK hown' PB (by omega)), (by rw [HEF.out]; exact Bf4.but Fx PB (by omega)), N.but PB (by omega), R.but PB (by omega), R2.but PB (by omega), .inr ⟨rfl, CZ.but PB (by omega)⟩, B.trans (PB.below (by omega) B.size)⟩
          case measure => simp [vI]; omega
    · have hkn : k = n := by omega
      subst hkn
      have hli : decide ((k : Int) < (k : Int)) = false := decide_eq_false (by omega)
      rw [hcode]
      have hcn := CS
      clear W Fx O o0 o1 o2 o3 o4 o5 o6
      go_wp2_with fail
      refine (l7Copy_any ep us ad k c M _ (by omega) hcn).mono ?_
      rintro e w6 ⟨a', c', rfl, OW, hb6⟩
      have hw5 : w.heap.size + 1 + 1 < wr.heap.size := R2.1.1
      replace R := R.below hb6
      replace R2 := R2.below hb6
      have hw56 : w.heap.size ≤ wr.heap.size := by omega
      replace B := B.trans (hb6.mono B.size)
      clear hb6 CS hcn N n0 n1 n2 n3
      have P1 := put3_butK w6 (w.heap.size + 1) (.int .i64 ep) (.int .i64 us) (.slice a' k c')
      have RQ := R.set (.int .i64 ep) (.int .i64 us) (.slice a' k c')
      have P2 := put4_but (((w6.setCell ⟨w.heap.size + 1, 0, none⟩ (.int .i64 ep)).setCell ⟨w.heap.size + 1, 1, none⟩ (.int .i64 us)).setCell ⟨w.heap.size + 1, 2, none⟩ (.slice a' k c')) (w.heap.size + 1 + 1) 0 0 0 0
      have RQ2 := (R2.but P1 (by omega)).set 0 0 0 0
      replace RQ := RQ.but P2 (by omega)
      have BQ1 := B.trans (P1.below (B := w.heap.size) (by omega) B.size)
      have BQ := BQ1.trans (P2.below (B := w.heap.size) (by omega) BQ1.size)
      have OQ := ownK_le (base' := w.heap.size) (own_butK (own_butK OW P1 (by omega)) P2 (by omega)) hw56
      have KZ : Hid (World.ownsRow _ _ _ _ _ _ _ ∧ Below _ _ _) := ⟨OQ, BQ⟩
      obtain ⟨r0, r1, r2, r3, r4, r5, r6⟩ := R
      obtain ⟨⟨f0, f1, f2, f3, f4⟩, f5, f6, f7, f8⟩ := R2
      clear P1 P2 BQ1 BQ OQ
      unfold put4 at RQ RQ2 KZ
      go_wp2_with fail
      clear r0 r1 r2 r3 r4 r5 r6 f0 f1 f2 f3 f4 f5 f6 f7 f8
      generalize (((((((w6.setCell ⟨w.heap.size + 1, 0, none⟩ (.int .i64 ep)).setCell ⟨w.heap.size + 1, 1, none⟩ (.int .i64 us)).setCell ⟨w.heap.size + 1, 2, none⟩ (.slice a' k c')).setCell ⟨w.heap.size + 1 + 1, 0, none⟩ (.int .i64 0)).setCell ⟨w.heap.size + 1 + 1, 1, none⟩ (.int .i64 0)).setCell ⟨w.heap.size + 1 + 1, 2, none⟩ (.int .i64 0)).setCell ⟨w.heap.size + 1 + 1, 3, none⟩ (.int .i64 0)) = wq at *
      obtain ⟨q0, q1, q2, q3, -, -, -⟩ := RQ
      obtain ⟨⟨g0, g1, g2, g3, g4⟩, -, -, -, -⟩ := RQ2
      exact bodyPost_ret (v := .tuple #[.agg #[.int .i64 ep, .int .i64 us, .slice a' k c'], .agg #[.int .i64 0, .int .i64 0, .int .i64 0, .int .i64 0], .int .i64 code]) (by simp (maxDischargeDepth := 6) [results, Try.results18, go_sem, q1, q2, q3, g1, g2, g3, g4]) rfl ⟨_, _, rfl, KZ.out.1, KZ.out.2⟩
set_option maxRecDepth 100000 in
set_option maxHeartbeats 16000000 in
theorem specUse_done (ep us : Int) (ad : Addr) (n c : Nat) (M : Nat → KT) (x y : Int) (w : World) (hm : n ≤ maxLen) (hf : Froms w ad M n) (i : Nat) (cd : Int) (ht : tabB ep us M n = true) (HO : Hid (∀ j, j < n → j ≠ i → (M j).1 ≠ x)) (HX : Hid (i < n → (M i).1 = x)) (HC : Hid (∀ z, z = (M i).2.1 → ((z != y) = true ∧ cd = 5) ∨ ((z != y) = false ∧ cd = 0))) (HBW : Hid (ad.block < w.heap.size)) (z0 z1 z2 z3 : Int) (hin : i < n) (hMi : Hid (M i = kT z0 z1 z2 z3)) (hc0 : Hid (cd = 0)) :
    Calls Try.prog 18 #[.agg #[.int .i64 ep, .int .i64 us, .slice (some ad) n c], .int .i64 x, .int .i64 y] w fun e w' => ∃ a' c', e = .returned (.tuple #[.agg #[.int .i64 ep, .int .i64 us, .slice a' (n - 1) c'], .agg #[.int .i64 z0, .int .i64 z1, .int .i64 z2, .int .i64 z3], .int .i64 0]) ∧ w'.ownsRow w.heap.size 34 4 (.slice a' (n - 1) c') (n - 1) (krow (cutK M i) (n - 1)) ∧ Below w.heap.size w w' := by
  have hn16 := tabB_len' ht
  obtain ⟨i0, hi, hz0, hz1, hz2⟩ := infoK_parts
  have N := ((IB3.new w ep us (some ad) n c 26).below (Below.nw _ (.cells #[.int .i64 0, .int .i64 0, .slice none 0 0] 26))).below (Below.nw _ (.cells #[.int .i64 0, .int .i64 0, .int .i64 0, .int .i64 0] 34))
  have R := (Bx3.new (w.alloc (.cells #[.int .i64 ep, .int .i64 us, .slice (some ad) n c] 26)) (.int .i64 0) (.int .i64 0) (.slice none 0 0) 26).below (Below.nw _ (.cells #[.int .i64 0, .int .i64 0, .int .i64 0, .int .i64 0] 34))
  have R2 := Bf4.new ((w.alloc (.cells #[.int .i64 ep, .int .i64 us, .slice (some ad) n c] 26)).alloc (.cells #[.int .i64 0, .int .i64 0, .slice none 0 0] 26)) 0 0 0 0 34
  have CS := ((hf.below (Below.nw w (.cells #[.int .i64 ep, .int .i64 us, .slice (some ad) n c] 26))).below (Below.nw _ (.cells #[.int .i64 0, .int .i64 0, .slice none 0 0] 26))).below (Below.nw _ (.cells #[.int .i64 0, .int .i64 0, .int .i64 0, .int .i64 0] 34))
  have A1 := Below.nw w (.cells #[.int .i64 ep, .int .i64 us, .slice (some ad) n c] 26)
  have A2 := A1.alloc A1.size (.cells #[.int .i64 0, .int .i64 0, .slice none 0 0] 26)
  have B := A2.alloc A2.size (.cells #[.int .i64 0, .int .i64 0, .int .i64 0, .int .i64 0] 34)
  simp only [World.size_alloc] at R R2
  have C := specTab_any ep us (some ad) n c M _ hm CS.src
  clear hf A1 A2
  go_enter Try.func18, Try.ntmps18
  go_upto_region 1 with fail
  generalize ((w.alloc (.cells #[.int .i64 ep, .int .i64 us, .slice (some ad) n c] 26)).alloc (.cells #[.int .i64 0, .int .i64 0, .slice none 0 0] 26)).alloc (.cells #[.int .i64 0, .int .i64 0, .int .i64 0, .int .i64 0] 34) = wa at *
  have hJ1 : w.heap.size + 1 + 1 < wa.heap.size := R2.1.1
  obtain ⟨n9, n0, n1, n2⟩ := id N
  go_wp2_with fail
  refine C.mono ?_
  rintro e wz ⟨rfl, hb⟩
  clear n9 n0 n1 n2
  replace N := N.below hb
  replace R := R.below hb
  replace R2 := R2.below hb
  replace CS := CS.below hb
  replace B := B.trans (hb.mono B.size)
  have hzz := hb.size
  clear hb C
  rw [ht]
  clear ht
  have A3 := Below.nw wz (.cells #[.int .i64 ep, .int .i64 us, .slice none 0 0] 26)
  have A4 := Below.nw (wz.alloc (.cells #[.int .i64 ep, .int .i64 us, .slice none 0 0] 26)) (.cells #[.int .i64 0, .int .i64 0, .int .i64 0, .int .i64 0] 34)
  have O := (Bx3.new wz (.int .i64 ep) (.int .i64 us) (.slice none 0 0) 26).below A4
  have Fx := Bf4.new (wz.alloc (.cells #[.int .i64 ep, .int .i64 us, .slice none 0 0] 26)) 0 0 0 0 34
  simp only [World.size_alloc] at Fx
  obtain ⟨n9, n0, n1, n2⟩ := id N
  have hjo : w.heap.size + 1 + 1 < wz.heap.size := by omega
  go_upto_region 6 with fail
  clear n9 n0 n1 n2
  replace N := (N.below A3).below A4
  replace R := (R.below A3).below A4
  replace R2 := (R2.below A3).below A4
  replace CS := (CS.below A3).below A4
  replace B := (B.trans (A3.mono B.size)).trans (A4.mono (B.trans (A3.mono B.size)).size)
  clear A3 A4
  generalize wz.heap.size = bo at *
  generalize (wz.alloc (.cells #[.int .i64 ep, .int .i64 us, .slice none 0 0] 26)).alloc (.cells #[.int .i64 0, .int .i64 0, .int .i64 0, .int .i64 0] 34) = v1 at *
  go_wp2_with fail
  go_loopw [11, 12] (fun s11 s12 wr => ∃ k : Nat, k ≤ n ∧ s12 = .int .i64 (k : Int) ∧ s11 = .int .i64 (cdK i k cd) ∧ UsInv ep us M w i ad n c bo k wr) (fun _ s12 _ => n - (vI s12).toNat)
  case atStart =>
    refine ⟨0, Nat.zero_le _, rfl, ?_, _, O, ?_, ?_, N, R, R2, CS, B⟩
    · unfold cdK; rw [if_pos (Nat.zero_le _)]
    · have e : ctK i 0 = 0 := by simp [ctK]
      rw [e]; exact World.ownsRow_nil _ _ _ _
    · have e : fdK M i 0 = zK := if_pos (Nat.zero_le _)
      unfold Bf4T; rw [e]; exact Fx
  case round =>
    clear O Fx N R R2 CS B
    obtain ⟨k, hk, rfl, rfl, vk, O, W, Fx, N, R, R2, CS, B⟩ := hrel
    obtain ⟨n0, n1, n2, n3⟩ := id N
    obtain ⟨o0, o1, o2, o3, o4, o5, o6⟩ := id O
    by_cases hlt : k < n
    · have hli : decide ((k : Int) < (n : Int)) = true := decide_eq_true (by omega)
      obtain ⟨b, off, rfl, CZ⟩ : ∃ b off, ad = ⟨b, off, none⟩ ∧ Cs wr b off (n * 4) (MFAsk M) := by
        rcases CS with h | ⟨hs, h⟩
        · omega
        · obtain ⟨b, off, s⟩ := ad
          simp only at hs h
          subst hs
          exact ⟨b, off, rfl, h⟩
      obtain ⟨x0, x1, x2, x3, hM⟩ := tupAsk M k
      obtain ⟨c0, c1, c2, c3⟩ := CZ.elAsk hlt hM
      by_cases hki : k = i
      · subst hki
        have hx0 : Hid (x0 = x) := by have := HX.out hlt; rw [hM] at this; exact this
        have hx0' : (x0 != x) = false := by rw [hx0.out]; exact bne_self_eq_false _
        have e := ctK_same k
        have hb0 : b < w.heap.size := HBW.out
        have hbz := CZ.1
        have HFD : Hid (fdK M k (k + 1) = kT x0 x1 x2 x3) := (fd_here (M := M) (i := k) (cd := cd)).1.trans hM
        have HZ : Hid (x1 = (M k).2.1) := by rw [Hid, hM]
        have HCD : Hid (cdK k (k + 1) cd = cd) := (fd_here (M := M) (i := k) (cd := cd)).2
        have Fy : Bf4 (put4 wr (bo + 1) x0 x1 x2 x3) (bo + 1) x0 x1 x2 x3 := Bf4.set (show Bf4 wr (bo + 1) _ _ _ _ from Fx) x0 x1 x2 x3
        have P4 := put4_but wr (bo + 1) x0 x1 x2 x3
        obtain ⟨⟨u0, u1, u2, u3, u4⟩, u5, u6, u7, u8⟩ := id (show Bf4 wr (bo + 1) _ _ _ _ from Fx)
        have O' := O.but P4 (by omega)
        have W' := own_butK W P4 (by omega)
        have N' := N.but P4 (by omega)
        have R' := R.but P4 (by omega)
        have R2' := R2.but P4 (by omega)
        have CZ' := CZ.but P4 (by omega)
        have B' := B.trans (P4.below (B := w.heap.size) (by omega) B.size)
        have HK : Hid (UsInv ep us M w k ⟨b, off, none⟩ n c bo (k + 1) (put4 wr (bo + 1) x0 x1 x2 x3)) := ⟨vk, O', by rw [e]; exact W', by unfold Bf4T; rw [HFD.out]; exact Fy, N', R', R2', .inr ⟨rfl, CZ'⟩, B'⟩
        clear O' W' N' R' R2' CZ' B' W Fx N R R2 CZ CS B hM e O P4
        go_upto_region 11 with fail
        go_upto_region 12 with fail
        clear n0 n1 n2 n3 o0 o1 o2 o3 o4 o5 o6 c0 c1 c2 c3 u0 u1 u2 u3 u4 u5 u6 u7 u8
        unfold put4 at Fy HK
        generalize (((wr.setCell ⟨bo + 1, 0, none⟩ (.int .i64 x0)).setCell ⟨bo + 1, 1, none⟩ (.int .i64 x1)).setCell ⟨bo + 1, 2, none⟩ (.int .i64 x2)).setCell ⟨bo + 1, 3, none⟩ (.int .i64 x3) = wy at *
        obtain ⟨⟨g0, g1, g2, g3, g4⟩, -, -, -, -⟩ := Fy
        have hcd := HC.out x1 HZ.out
        rcases hcd with ⟨hyy, hcc⟩ | ⟨hyy, hcc⟩
        · have hy1 : (x1 != y) = true := hyy
          go_wp2_with fail
          go_roundw
          case rel => exact ⟨k + 1, by omega, by go_num, by rw [HCD.out, hcc], HK.out⟩
          case measure => simp [vI]; omega
        · have hy1 : (x1 != y) = false := hyy
          go_wp2_with fail
          go_roundw
          case rel => exact ⟨k + 1, by omega, by go_num, by rw [HCD.out, hcc], HK.out⟩
          case measure => simp [vI]; omega
      · have hne : (x0 != x) = true := by have := HO.out k hlt hki; rw [hM] at this; exact bne_iff_ne.2 this
        obtain ⟨ec, en⟩ := cutK_at (M := M) hki
        obtain ⟨ef, ed⟩ := fd_next (M := M) (cd := cd) hki
        have HW : Hid (krow (cutK M i) (ctK i k) ++ [.int .i64 x0, .int .i64 x1, .int .i64 x2, .int .i64 x3] = krow (cutK M i) (ctK i k + 1)) := krow_add (ec.trans hM)
        have hcl := ctK_le i k
        have HEN : Hid (ctK i (k + 1) = ctK i k + 1) := en
        have HEF : Hid (fdK M i (k + 1) = fdK M i k) := ef
        have HED : Hid (cdK i (k + 1) cd = cdK i k cd) := ed
        have hbz : b < bo := by (have hb0 : b < w.heap.size := HBW.out); omega
        have hbj : b < bo + 2 := by omega
        clear ec en ef ed hM CS
        generalize ctK i k = q at *
        generalize fdK M i k = fk at *
        generalize cdK i k cd = ck at *
        go_upto_region 10 with fail
        refine wp_region_held_drew (S := (fun w' => w'.cell? ⟨w.heap.size, 2, none⟩ = some (.slice (some ⟨b, off, none⟩) n c) ∧ w'.cell? ⟨b, off + k * 4, none⟩ = some (.int .i64 x0) ∧ w'.cell? ⟨b, off + k * 4 + 1, none⟩ = some (.int .i64 x1) ∧ w'.cell? ⟨b, off + k * 4 + 2, none⟩ = some (.int .i64 x2) ∧ w'.cell? ⟨b, off + k * 4 + 3, none⟩ = some (.int .i64 x3))) (by kernel_rfl) ?_ (fun hHeld => ?_)
        · first | exact ⟨n3, c0, c1, c2, c3⟩ | (simp (maxDischargeDepth := 6) [go_sem, *]; done)
        clear n0 n1 n2 n3 o0 o1 o2 o3 o4 o5 o6
        replace N := N.drew
        replace O := O.drew
        replace Fx : Bf4T wr.drew (bo + 1) fk := Fx
        replace R := R.drew
        replace R2 := R2.drew
        replace B := Below.drew B
        replace CZ := CZ.drew
        replace W := World.ownsRow.drew W
        replace c0 : wr.drew.cell? _ = _ := c0
        replace c1 : wr.drew.cell? _ = _ := c1
        replace c2 : wr.drew.cell? _ = _ := c2
        replace c3 : wr.drew.cell? _ = _ := c3
        generalize wr.drew = v at *
        (obtain ⟨n0, n1, n2, n3⟩ := id N); (obtain ⟨o0, o1, o2, o3, o4, o5, o6⟩ := id O)
        refine wpAnyH_take (i := 0) (v := ?_) (by rw [List.getElem?_toArray]; rfl) (by kernel_rfl) (by kernel_rfl) (by kernel_rfl) (by intro _ _ _ h; exact h) (Or.inl ⟨by rfl, ?_⟩) (by assumption) ?_
        rotate_left
        · (intro w hSw; (try dsimp only at hSw); go_simp; all_goals with_reducible rfl)
        (try simp only [Act.put, List.setIfInBounds_toArray, List.set_cons_zero, List.set_cons_succ])
        refine wpAnyH_take (i := 2) (v := ?_) (by rw [List.getElem?_toArray]; rfl) (by kernel_rfl) (by kernel_rfl) (by kernel_rfl) (by intro _ _ _ h; exact h) (Or.inl ⟨by rfl, ?_⟩) (by assumption) ?_
        rotate_left
        · (intro w hSw; (try dsimp only at hSw); go_simp; all_goals with_reducible rfl)
        (try simp only [Act.put, List.setIfInBounds_toArray, List.set_cons_zero, List.set_cons_succ])
        refine wpAnyH_take (i := 3) (v := ?_) (by rw [List.getElem?_toArray]; rfl) (by kernel_rfl) (by kernel_rfl) (by kernel_rfl) (by intro _ _ _ h; exact h) (Or.inl ⟨by rfl, ?_⟩) (by assumption) ?_
        rotate_left
        · (intro w hSw; (try dsimp only at hSw); go_simp; all_goals with_reducible rfl)
        (try simp only [Act.put, List.setIfInBounds_toArray, List.set_cons_zero, List.set_cons_succ])
        refine wpAnyH_take (i := 4) (v := ?_) (by rw [List.getElem?_toArray]; rfl) (by kernel_rfl) (by kernel_rfl) (by kernel_rfl) (by intro _ _ _ h; exact h) (Or.inl ⟨by rfl, ?_⟩) (by assumption) ?_
        rotate_left
        · (intro w hSw; (try dsimp only at hSw); go_simp; all_goals with_reducible rfl)
        (try simp only [Act.put, List.setIfInBounds_toArray, List.set_cons_zero, List.set_cons_succ])
        refine wpAnyH_take (i := 5) (v := ?_) (by rw [List.getElem?_toArray]; rfl) (by kernel_rfl) (by kernel_rfl) (by kernel_rfl) (by intro _ _ _ h; exact h) (Or.inl ⟨by rfl, ?_⟩) (by assumption) ?_
        rotate_left
        · (intro w hSw; (try dsimp only at hSw); go_simp; all_goals with_reducible rfl)
        (try simp only [Act.put, List.setIfInBounds_toArray, List.set_cons_zero, List.set_cons_succ])
        refine wpAnyH_take (i := 6) (v := ?_) (by rw [List.getElem?_toArray]; rfl) (by kernel_rfl) (by kernel_rfl) (by kernel_rfl) (by intro _ _ _ h; exact h) (Or.inl ⟨by rfl, ?_⟩) (by assumption) ?_
        rotate_left
        · (intro w hSw; (try dsimp only at hSw); go_simp; all_goals with_reducible rfl)
        (try simp only [Act.put, List.setIfInBounds_toArray, List.set_cons_zero, List.set_cons_succ])
        refine wpAnyH_ready (rs := [1, 7]) (by kernel_rfl) (by simp) ?_
        refine (AllReadyH.cons (by rw [List.getElem?_toArray]; rfl) (fun K hK => ?_) (AllReadyH.cons (by rw [List.getElem?_toArray]; rfl) (fun K hK => ?_) AllReadyH.nil))
        · go_simp
          refine hK.out _ _ ?_ (fun hHeld => ?_)
          · first | exact ⟨n3, c0, c1, c2, c3⟩ | (simp (maxDischargeDepth := 6) [go_sem, *]; done)
          clear hK K
          (try simp only [Act.put, List.setIfInBounds_toArray, List.set_cons_zero, List.set_cons_succ])
          refine wpAnyH_ready (rs := [7]) (by kernel_rfl) (by simp) ?_
          refine (AllReadyH.cons (by rw [List.getElem?_toArray]; rfl) (fun K hK => ?_) AllReadyH.nil)
          go_simp
          (have A := Below.nw v (.cells #[.int .i64 x0, .int .i64 x1, .int .i64 x2, .int .i64 x3] 34)); (have hvz : bo + 2 ≤ v.heap.size := Nat.succ_le_of_lt (show Bf4 v (bo + 1) _ _ _ _ from Fx).1.1); (have HF : Hid (∀ j u, [Value.int .i64 x0, .int .i64 x1, .int .i64 x2, .int .i64 x3][j]? = some u → (v.alloc (.cells #[.int .i64 x0, .int .i64 x1, .int .i64 x2, .int .i64 x3] 34)).cell? ((⟨v.heap.size, 0, none⟩ : Addr).add j) = some u) := fun j u hu => four_at v x0 x1 x2 x3 34 j u hu); clear n0 n1 n2 n3 o0 o1 o2 o3 o4 o5 o6; (replace c0 := (A.cell (p := ⟨b, off + k * 4, none⟩) CZ.1).trans c0); (replace c1 := (A.cell (p := ⟨b, off + k * 4 + 1, none⟩) CZ.1).trans c1); (replace c2 := (A.cell (p := ⟨b, off + k * 4 + 2, none⟩) CZ.1).trans c2); (replace c3 := (A.cell (p := ⟨b, off + k * 4 + 3, none⟩) CZ.1).trans c3); (replace N := N.below A); (replace O := O.below A); (replace Fx : Bf4T _ (bo + 1) fk := Bf4.below Fx A); (replace R := R.below A); (replace R2 := R2.below A); (replace W := World.ownsRow.alloc W (.cells #[.int .i64 x0, .int .i64 x1, .int .i64 x2, .int .i64 x3] 34)); (replace CZ := CZ.below A CZ.1); (replace B := B.trans (A.mono B.size)); (have hsz : bo + 2 ≤ (v.alloc (.cells #[.int .i64 x0, .int .i64 x1, .int .i64 x2, .int .i64 x3] 34)).heap.size := Nat.le_trans hvz A.size); (have hcsz := CZ.1); clear A; (generalize v.alloc (.cells #[.int .i64 x0, .int .i64 x1, .int .i64 x2, .int .i64 x3] 34) = v2 at *); (generalize v.heap.size = jv at *); (obtain ⟨n0, n1, n2, n3⟩ := id N); (obtain ⟨o0, o1, o2, o3, o4, o5, o6⟩ := id O)
          refine hK.out _ _ ?_ (fun hHeld => ?_)
          · first | exact ⟨n3, c0, c1, c2, c3⟩ | (simp (maxDischargeDepth := 6) [go_sem, *]; done)
          clear hK K
          (try simp only [Act.put, List.setIfInBounds_toArray, List.set_cons_zero, List.set_cons_succ])
          refine wpAnyH_ready (rs := [8]) (by kernel_rfl) (by simp) ?_
          refine (AllReadyH.cons (by rw [List.getElem?_toArray]; rfl) (fun K hK => ?_) AllReadyH.nil)
          rw [if_pos (by rfl)]; refine wp_append_own _ _ _ 24 rfl (bo + 2) 34 i0 (.agg #[.int .i64 0, .int .i64 0, .int .i64 0, .int .i64 0]) 4 32 Try.underlying24 hi hz0 hz1 hz2 rfl (by decide) _ _ _ rfl W ⟨jv, 0, none⟩ 1 1 [.int .i64 x0, .int .i64 x1, .int .i64 x2, .int .i64 x3] rfl rfl HF.out (four_one _ _ _ _) (by unfold maxLen; omega) (by omega) hsz ?_; intro v' wn hown' hgrow _; (have G := grown_belowK W hgrow hsz); clear n0 n1 n2 n3 o0 o1 o2 o3 o4 o5 o6; (replace c0 := (G.cell (p := ⟨b, off + k * 4, none⟩) hbj).trans c0); (replace c1 := (G.cell (p := ⟨b, off + k * 4 + 1, none⟩) hbj).trans c1); (replace c2 := (G.cell (p := ⟨b, off + k * 4 + 2, none⟩) hbj).trans c2); (replace c3 := (G.cell (p := ⟨b, off + k * 4 + 3, none⟩) hbj).trans c3); (replace N := N.belB G (by omega)); (replace O := O.belB G (by omega)); (replace Fx : Bf4T _ (bo + 1) fk := Bf4.bel Fx G (by omega)); (replace R := R.belB G (by omega)); (replace R2 := R2.bel G (by omega)); (replace CZ := CZ.below G (by omega)); (replace B := B.trans (G.mono (by omega))); rw [HW.out] at hown'; (obtain ⟨a', c', rfl, _, _, _⟩ := ownF_src hown'); clear hgrow HF; (obtain ⟨n0, n1, n2, n3⟩ := id N); (obtain ⟨o0, o1, o2, o3, o4, o5, o6⟩ := id O)
          refine hK.out _ _ ?_ (fun hHeld => ?_)
          · first | exact ⟨n3, c0, c1, c2, c3⟩ | (simp (maxDischargeDepth := 6) [go_sem, *]; done)
          clear hK K
          (try simp only [Act.put, List.setIfInBounds_toArray, List.set_cons_zero, List.set_cons_succ])
          refine wpAnyH_take (i := 9) (v := ?_) (by rw [List.getElem?_toArray]; rfl) (by kernel_rfl) (by kernel_rfl) (by kernel_rfl) (by intro _ _ _ h; exact h) (Or.inl ⟨by rfl, ?_⟩) (by assumption) ?_
          rotate_left
          · (intro w hSw; (try dsimp only at hSw); go_simp; all_goals with_reducible rfl)
          (try simp only [Act.put, List.setIfInBounds_toArray, List.set_cons_zero, List.set_cons_succ])
          refine wpAnyH_ready (rs := [10]) (by kernel_rfl) (by simp) ?_
          refine (AllReadyH.cons (by rw [List.getElem?_toArray]; rfl) (fun K hK => ?_) AllReadyH.nil)
          go_simp
          refine hK.out _ _ ?_ (fun hHeld => ?_)
          · first | exact ⟨n3, c0, c1, c2, c3⟩ | (simp (maxDischargeDepth := 6) [go_sem, *]; done)
          clear hK K
          (try simp only [Act.put, List.setIfInBounds_toArray, List.set_cons_zero, List.set_cons_succ])
          refine wpAnyH_done (by kernel_rfl) ?_ _
          go_wp2_with fail
          have PB := But.oneK wn bo 2 (.slice a' (q + 1) c')
          go_roundw
          case rel => exact ⟨k + 1, by omega, by go_num, by rw [HED.out], _, O.set2 _, (by rw [HEN.out]; exact own_butK hown' PB (by omega)), (by rw [HEF.out]; exact Bf4.but Fx PB (by omega)), N.but PB (by omega), R.but PB (by omega), R2.but PB (by omega), .inr ⟨rfl, CZ.but PB (by omega)⟩, B.trans (PB.below (by omega) B.size)⟩
          case measure => simp [vI]; omega
        · go_simp
          (have A := Below.nw v (.cells #[.int .i64 x0, .int .i64 x1, .int .i64 x2, .int .i64 x3] 34)); (have hvz : bo + 2 ≤ v.heap.size := Nat.succ_le_of_lt (show Bf4 v (bo + 1) _ _ _ _ from Fx).1.1); (have HF : Hid (∀ j u, [Value.int .i64 x0, .int .i64 x1, .int .i64 x2, .int .i64 x3][j]? = some u → (v.alloc (.cells #[.int .i64 x0, .int .i64 x1, .int .i64 x2, .int .i64 x3] 34)).cell? ((⟨v.heap.size, 0, none⟩ : Addr).add j) = some u) := fun j u hu => four_at v x0 x1 x2 x3 34 j u hu); clear n0 n1 n2 n3 o0 o1 o2 o3 o4 o5 o6; (replace c0 := (A.cell (p := ⟨b, off + k * 4, none⟩) CZ.1).trans c0); (replace c1 := (A.cell (p := ⟨b, off + k * 4 + 1, none⟩) CZ.1).trans c1); (replace c2 := (A.cell (p := ⟨b, off + k * 4 + 2, none⟩) CZ.1).trans c2); (replace c3 := (A.cell (p := ⟨b, off + k * 4 + 3, none⟩) CZ.1).trans c3); (replace N := N.below A); (replace O := O.below A); (replace Fx : Bf4T _ (bo + 1) fk := Bf4.below Fx A); (replace R := R.below A); (replace R2 := R2.below A); (replace W := World.ownsRow.alloc W (.cells #[.int .i64 x0, .int .i64 x1, .int .i64 x2, .int .i64 x3] 34)); (replace CZ := CZ.below A CZ.1); (replace B := B.trans (A.mono B.size)); (have hsz : bo + 2 ≤ (v.alloc (.cells #[.int .i64 x0, .int .i64 x1, .int .i64 x2, .int .i64 x3] 34)).heap.size := Nat.le_trans hvz A.size); (have hcsz := CZ.1); clear A; (generalize v.alloc (.cells #[.int .i64 x0, .int .i64 x1, .int .i64 x2, .int .i64 x3] 34) = v2 at *); (generalize v.heap.size = jv at *); (obtain ⟨n0, n1, n2, n3⟩ := id N); (obtain ⟨o0, o1, o2, o3, o4, o5, o6⟩ := id O)
          refine hK.out _ _ ?_ (fun hHeld => ?_)
          · first | exact ⟨n3, c0, c1, c2, c3⟩ | (simp (maxDischargeDepth := 6) [go_sem, *]; done)
          clear hK K
          (try simp only [Act.put, List.setIfInBounds_toArray, List.set_cons_zero, List.set_cons_succ])
          refine wpAnyH_ready (rs := [1]) (by kernel_rfl) (by simp) ?_
          refine (AllReadyH.cons (by rw [List.getElem?_toArray]; rfl) (fun K hK => ?_) AllReadyH.nil)
          go_simp
          refine hK.out _ _ ?_ (fun hHeld => ?_)
          · first | exact ⟨n3, c0, c1, c2, c3⟩ | (simp (maxDischargeDepth := 6) [go_sem, *]; done)
          clear hK K
          (try simp only [Act.put, List.setIfInBounds_toArray, List.set_cons_zero, List.set_cons_succ])
          refine wpAnyH_ready (rs := [8]) (by kernel_rfl) (by simp) ?_
          refine (AllReadyH.cons (by rw [List.getElem?_toArray]; rfl) (fun K hK => ?_) AllReadyH.nil)
          rw [if_pos (by rfl)]; refine wp_append_own _ _ _ 24 rfl (bo + 2) 34 i0 (.agg #[.int .i64 0, .int .i64 0, .int .i64 0, .int .i64 0]) 4 32 Try.underlying24 hi hz0 hz1 hz2 rfl (by decide) _ _ _ rfl W ⟨jv, 0, none⟩ 1 1 [.int .i64 x0, .int .i64 x1, .int .i64 x2, .int .i64 x3] rfl rfl HF.out (four_one _ _ _ _) (by unfold maxLen; omega) (by omega) hsz ?_; intro v' wn hown' hgrow _; (have G := grown_belowK W hgrow hsz); clear n0 n1 n2 n3 o0 o1 o2 o3 o4 o5 o6; (replace c0 := (G.cell (p := ⟨b, off + k * 4, none⟩) hbj).trans c0); (replace c1 := (G.cell (p := ⟨b, off + k * 4 + 1, none⟩) hbj).trans c1); (replace c2 := (G.cell (p := ⟨b, off + k * 4 + 2, none⟩) hbj).trans c2); (replace c3 := (G.cell (p := ⟨b, off + k * 4 + 3, none⟩) hbj).trans c3); (replace N := N.belB G (by omega)); (replace O := O.belB G (by omega)); (replace Fx : Bf4T _ (bo + 1) fk := Bf4.bel Fx G (by omega)); (replace R := R.belB G (by omega)); (replace R2 := R2.bel G (by omega)); (replace CZ := CZ.below G (by omega)); (replace B := B.trans (G.mono (by omega))); rw [HW.out] at hown'; (obtain ⟨a', c', rfl, _, _, _⟩ := ownF_src hown'); clear hgrow HF; (obtain ⟨n0, n1, n2, n3⟩ := id N); (obtain ⟨o0, o1, o2, o3, o4, o5, o6⟩ := id O)
          refine hK.out _ _ ?_ (fun hHeld => ?_)
          · first | exact ⟨n3, c0, c1, c2, c3⟩ | (simp (maxDischargeDepth := 6) [go_sem, *]; done)
          clear hK K
          (try simp only [Act.put, List.setIfInBounds_toArray, List.set_cons_zero, List.set_cons_succ])
          refine wpAnyH_take (i := 9) (v := ?_) (by rw [List.getElem?_toArray]; rfl) (by kernel_rfl) (by kernel_rfl) (by kernel_rfl) (by intro _ _ _ h; exact h) (Or.inl ⟨by rfl, ?_⟩) (by assumption) ?_
          rotate_left
          · (intro w hSw; (try dsimp only at hSw); go_simp; all_goals with_reducible rfl)
          (try simp only [Act.put, List.setIfInBounds_toArray, List.set_cons_zero, List.set_cons_succ])
          refine wpAnyH_ready (rs := [10]) (by kernel_rfl) (by simp) ?_
          refine (AllReadyH.cons (by rw [List.getElem?_toArray]; rfl) (fun K hK => ?_) AllReadyH.nil)
          go_simp
          refine hK.out _ _ ?_ (fun hHeld => ?_)
          · first | exact ⟨n3, c0, c1, c2, c3⟩ | (simp (maxDischargeDepth := 6) [go_sem, *]; done)
          clear hK K
          (try simp only [Act.put, List.setIfInBounds_toArray, List.set_cons_zero, List.set_cons_succ])
          refine wpAnyH_done (by kernel_rfl) ?_ _
          go_wp2_with fail
          have PB := But.oneK wn bo 2 (.slice a' (q + 1) c')
          go_roundw
          case rel => exact ⟨k + 1, by omega, by go_num, by rw [HED.out], _, O.set2 _, (by rw [HEN.out]; exact own_butK hown' PB (by omega)), (by rw [HEF.out]; exact Bf4.but Fx PB (by omega)), N.but PB (by omega), R.but PB (by omega), R2.but PB (by omega), .inr ⟨rfl, CZ.but PB (by omega)⟩, B.trans (PB.below (by omega) B.size)⟩
          case measure => simp [vI]; omega
    · have hkn : k = n := by omega
      subst hkn
      have hli : decide ((k : Int) < (k : Int)) = false := decide_eq_false (by omega)
      have e1 : ctK i k = k - 1 := by unfold ctK; rw [if_neg (by omega)]
      have e2 : fdK M i k = kT z0 z1 z2 z3 := (if_neg (by omega)).trans hMi.out
      have e3 : cdK i k cd = 0 := (if_neg (by omega)).trans hc0.out
      rw [e1] at W
      rw [e2] at Fx
      rw [e3]
      replace Fx : Bf4 wr (bo + 1) z0 z1 z2 z3 := Fx
      obtain ⟨a', c', rfl, _, _, _⟩ := ownF_src W
      obtain ⟨⟨u0, u1, u2, u3, u4⟩, -, -, -, -⟩ := Fx
      have hd1 : ¬ bo = w.heap.size + 1 := by omega
      have hd2 : ¬ bo + 1 = w.heap.size + 1 := by omega
      have hd3 : ¬ bo = w.heap.size + 1 + 1 := by omega
      have hd4 : ¬ bo + 1 = w.heap.size + 1 + 1 := by omega
      have hd5 : ¬ bo = w.heap.size := by omega
      clear e1 e2 e3
      go_upto_region 17 with fail
      have P1 := put3_butK wr (w.heap.size + 1) (.int .i64 ep) (.int .i64 us) (.slice a' (k - 1) c')
      have RQ := R.set (.int .i64 ep) (.int .i64 us) (.slice a' (k - 1) c')
      have P2 := put4_but (((wr.setCell ⟨w.heap.size + 1, 0, none⟩ (.int .i64 ep)).setCell ⟨w.heap.size + 1, 1, none⟩ (.int .i64 us)).setCell ⟨w.heap.size + 1, 2, none⟩ (.slice a' (k - 1) c')) (w.heap.size + 1 + 1) z0 z1 z2 z3
      have RQ2 := (R2.but P1 (by omega)).set z0 z1 z2 z3
      replace RQ := RQ.but P2 (by omega)
      have BQ1 := B.trans (P1.below (B := w.heap.size) (by omega) B.size)
      have BQ := BQ1.trans (P2.below (B := w.heap.size) (by omega) BQ1.size)
      have OQ := ownK_le (base' := w.heap.size) (own_butK (own_butK W P1 (by omega)) P2 (by omega)) (by omega)
      have KZ : Hid (World.ownsRow _ _ _ _ _ _ _ ∧ Below _ _ _) := ⟨OQ, BQ⟩
      obtain ⟨r0, r1, r2, r3, r4, r5, r6⟩ := R
      obtain ⟨⟨f0, f1, f2, f3, f4⟩, f5, f6, f7, f8⟩ := R2
      clear P1 P2 BQ1 BQ OQ
      unfold put4 at RQ RQ2 KZ
      go_region
      clear n0 n1 n2 n3 o0 o1 o2 o3 o4 o5 o6 u0 u1 u2 u3 u4 r0 r1 r2 r3 r4 r5 r6 f0 f1 f2 f3 f4 f5 f6 f7 f8
      generalize (((((((wr.setCell ⟨w.heap.size + 1, 0, none⟩ (.int .i64 ep)).setCell ⟨w.heap.size + 1, 1, none⟩ (.int .i64 us)).setCell ⟨w.heap.size + 1, 2, none⟩ (.slice a' (k - 1) c')).setCell ⟨w.heap.size + 1 + 1, 0, none⟩ (.int .i64 z0)).setCell ⟨w.heap.size + 1 + 1, 1, none⟩ (.int .i64 z1)).setCell ⟨w.heap.size + 1 + 1, 2, none⟩ (.int .i64 z2)).setCell ⟨w.heap.size + 1 + 1, 3, none⟩ (.int .i64 z3)) = wq at *
      obtain ⟨q0, q1, q2, q3, -, -, -⟩ := RQ
      obtain ⟨⟨g0, g1, g2, g3, g4⟩, -, -, -, -⟩ := RQ2
      go_wp2_with fail
      exact bodyPost_ret (v := .tuple #[.agg #[.int .i64 ep, .int .i64 us, .slice a' (k - 1) c'], .agg #[.int .i64 z0, .int .i64 z1, .int .i64 z2, .int .i64 z3], .int .i64 0]) (by simp (maxDischargeDepth := 6) [results, Try.results18, go_sem, q1, q2, q3, g1, g2, g3, g4]) rfl ⟨_, _, rfl, World.ownsRow.drew KZ.out.1, Below.drew KZ.out.2⟩
end Go.Proofs.Ytcaelkpjkmpheaa
