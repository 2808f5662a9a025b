/- The contract of spec.Use. Contracts of Reboot. The walk of the exact law of Reboot. The contract of spec.ExpireAsks. What the draws leave: times, intervals, the new cursor. What the draws leave: times, intervals, the new cursor. A struct of two ints in a block: what keeps it. -/
import Derived.Test.YtgfhcilhibbooaaMu2
import Derived.Test.YtgfhcilhibbooaaMu4
import Derived.Test.YtgfhcilhibbooaaMu3
import Derived.Deep.RegionHeld3
import Derived.Deep.DeepCutAuto
import Derived.WalkKit
import Derived.WalkSpells
import Derived.WalkLawsBesides
import Derived.Deep.RegionHeld
import Derived.MapKept
import Derived.Test.YtgfhcilhibbooaaMu1
import Derived.Deep.QuietTactic
import Derived.BigQuiet
namespace Go.Proofs.Ytgfhcilhibbooaa
open Go.RowKit
set_option linter.unusedVariables false
theorem IB3.belB {w w' : World} {B j : Nat} {ep us : Int} {a : Option Addr} {n c : Nat} (h : IB3 w j ep us a n c) (hb : Below B w w') (hj : j < B) : IB3 w' j ep us a n c :=
  ⟨Nat.lt_of_lt_of_le h.1 hb.size, by rw [hb.cell (p := ⟨j, 0, none⟩) hj]; exact h.2.1, by rw [hb.cell (p := ⟨j, 1, none⟩) hj]; exact h.2.2.1, by rw [hb.cell (p := ⟨j, 2, none⟩) hj]; exact h.2.2.2⟩
theorem Bx3.belB {w w' : World} {B j : Nat} {u0 u1 u2 : Value} (h : Bx3 w j u0 u1 u2) (hb : Below B w w') (hj : j < B) : Bx3 w' j u0 u1 u2 := by
  obtain ⟨h0, h1, h2, h3, h4, h5, h6⟩ := h
  exact ⟨Nat.lt_of_lt_of_le h0 hb.size, by rw [hb.cell (p := ⟨j, 0, none⟩) hj]; exact h1, by rw [hb.cell (p := ⟨j, 1, none⟩) hj]; exact h2, by rw [hb.cell (p := ⟨j, 2, none⟩) hj]; exact h3, by rw [hb.frozen (p := ⟨j, 0, none⟩) hj]; exact h4, by rw [hb.frozen (p := ⟨j, 1, none⟩) hj]; exact h5, by rw [hb.frozen (p := ⟨j, 2, none⟩) hj]; exact h6⟩
def ctK (i k : Nat) : Nat := if k ≤ i then k else k - 1
theorem cutK_at {M : Nat → KT} {i k : Nat} (h : k ≠ i) : cutK M i (ctK i k) = M k ∧ ctK i (k + 1) = ctK i k + 1 := by
  unfold cutK ctK
  by_cases h1 : k ≤ i
  · rw [if_pos h1, if_pos (by omega), if_pos (by omega)]; exact ⟨rfl, rfl⟩
  · rw [if_neg h1, if_neg (by omega), if_neg (by omega)]
    exact ⟨by rw [show k - 1 + 1 = k by omega], by omega⟩
theorem ctK_same (i : Nat) : ctK i (i + 1) = ctK i i := by unfold ctK; rw [if_neg (by omega), if_pos (Nat.le_refl _)]; omega
theorem ctK_le (i k : Nat) : ctK i k ≤ k := by unfold ctK; split <;> omega
def fdK (M : Nat → KT) (i k : Nat) : KT := if k ≤ i then zK else M i
def cdK (i k : Nat) (cd : Int) : Int := if k ≤ i then 4 else cd
theorem fd_next {M : Nat → KT} {i k : Nat} {cd : Int} (h : k ≠ i) : fdK M i (k + 1) = fdK M i k ∧ cdK i (k + 1) cd = cdK i k cd := by
  unfold fdK cdK
  by_cases h1 : k ≤ i
  · rw [if_pos h1, if_pos (by omega), if_pos (by omega), if_pos h1]; exact ⟨rfl, rfl⟩
  · rw [if_neg h1, if_neg (by omega), if_neg (by omega), if_neg h1]; exact ⟨rfl, rfl⟩
theorem fd_here {M : Nat → KT} {i : Nat} {cd : Int} : fdK M i (i + 1) = M i ∧ cdK i (i + 1) cd = cd := by
  unfold fdK cdK
  exact ⟨if_neg (by omega), if_neg (by omega)⟩
def Bf4T (w : World) (j : Nat) (K : KT) : Prop := Bf4 w j K.1 K.2.1 K.2.2.1 K.2.2.2
def UsInv (ep us : Int) (M : Nat → KT) (w : World) (i : Nat) (ad : Addr) (n c bo k : Nat) (wr : World) : Prop := ∃ vk : Value, Bx3 wr bo (.int .i64 ep) (.int .i64 us) vk ∧ wr.ownsRow (bo + 2) 43 4 vk (ctK i k) (krow (cutK M i) (ctK i k)) ∧ Bf4T wr (bo + 1) (fdK M i k) ∧ IB3 wr w.heap.size ep us (some ad) n c ∧ Bx3 wr (w.heap.size + 1) (.int .i64 0) (.int .i64 0) (.slice none 0 0) ∧ Bf4 wr (w.heap.size + 1 + 1) 0 0 0 0 ∧ Froms wr ad M n ∧ Below w.heap.size w wr
set_option maxHeartbeats 8000000 in
theorem specUse_bad (ep us : Int) (ad : Addr) (n c : Nat) (M : Nat → KT) (x y : Int) (w : World) (hm : n ≤ maxLen) (hf : Froms w ad M n) (ht : tabB ep us M n = false) :
    Calls Try.prog 16 #[.agg #[.int .i64 ep, .int .i64 us, .slice (some ad) n c], .int .i64 x, .int .i64 y] w fun e w' => ∃ a' c', e = .returned (.tuple #[.agg #[.int .i64 0, .int .i64 0, .slice a' 0 c'], .agg #[.int .i64 0, .int .i64 0, .int .i64 0, .int .i64 0], .int .i64 1]) ∧ w'.ownsRow w.heap.size 43 4 (.slice a' 0 c') 0 (krow M 0) ∧ Below w.heap.size w w' := by
  have N := ((IB3.new w ep us (some ad) n c 39).below (Below.nw _ (.cells #[.int .i64 0, .int .i64 0, .slice none 0 0] 39))).below (Below.nw _ (.cells #[.int .i64 0, .int .i64 0, .int .i64 0, .int .i64 0] 43))
  have R := (Bx3.new (w.alloc (.cells #[.int .i64 ep, .int .i64 us, .slice (some ad) n c] 39)) (.int .i64 0) (.int .i64 0) (.slice none 0 0) 39).below (Below.nw _ (.cells #[.int .i64 0, .int .i64 0, .int .i64 0, .int .i64 0] 43))
  have R2 := Bf4.new ((w.alloc (.cells #[.int .i64 ep, .int .i64 us, .slice (some ad) n c] 39)).alloc (.cells #[.int .i64 0, .int .i64 0, .slice none 0 0] 39)) 0 0 0 0 43
  have CS := ((hf.below (Below.nw w (.cells #[.int .i64 ep, .int .i64 us, .slice (some ad) n c] 39))).below (Below.nw _ (.cells #[.int .i64 0, .int .i64 0, .slice none 0 0] 39))).below (Below.nw _ (.cells #[.int .i64 0, .int .i64 0, .int .i64 0, .int .i64 0] 43))
  have A1 := Below.nw w (.cells #[.int .i64 ep, .int .i64 us, .slice (some ad) n c] 39)
  have A2 := A1.alloc A1.size (.cells #[.int .i64 0, .int .i64 0, .slice none 0 0] 39)
  have B := A2.alloc A2.size (.cells #[.int .i64 0, .int .i64 0, .int .i64 0, .int .i64 0] 43)
  simp only [World.size_alloc] at R R2
  have C := specTab_any ep us (some ad) n c M _ hm CS.src
  clear hf A1 A2
  go_enter Try.func16, Try.ntmps16
  go_upto_region 1 with fail
  generalize ((w.alloc (.cells #[.int .i64 ep, .int .i64 us, .slice (some ad) n c] 39)).alloc (.cells #[.int .i64 0, .int .i64 0, .slice none 0 0] 39)).alloc (.cells #[.int .i64 0, .int .i64 0, .int .i64 0, .int .i64 0] 43) = wa at *
  have hJ1 : w.heap.size + 1 + 1 < wa.heap.size := R2.1.1
  obtain ⟨n9, n0, n1, n2⟩ := id N
  go_wp2_with fail
  refine C.mono ?_
  rintro e wz ⟨rfl, hb⟩
  clear n9 n0 n1 n2
  replace N := N.below hb
  replace R := R.below hb
  replace R2 := R2.below hb
  replace CS := CS.below hb
  replace B := B.trans (hb.mono B.size)
  have hzz := hb.size
  clear hb C
  rw [ht]
  have P1 := put3_butK wz (w.heap.size + 1) (.int .i64 0) (.int .i64 0) (.slice none 0 0)
  have RQ := R.set (.int .i64 0) (.int .i64 0) (.slice none 0 0)
  have P2 := put4_but (((wz.setCell ⟨w.heap.size + 1, 0, none⟩ (.int .i64 0)).setCell ⟨w.heap.size + 1, 1, none⟩ (.int .i64 0)).setCell ⟨w.heap.size + 1, 2, none⟩ (.slice none 0 0)) (w.heap.size + 1 + 1) 0 0 0 0
  have RQ2 := (R2.but P1 (by omega)).set 0 0 0 0
  replace RQ := RQ.but P2 (by omega)
  have BQ1 := B.trans (P1.below (B := w.heap.size) (by omega) B.size)
  have BQ := BQ1.trans (P2.below (B := w.heap.size) (by omega) BQ1.size)
  have OQ := World.ownsRow_nil (put4 (((wz.setCell ⟨w.heap.size + 1, 0, none⟩ (.int .i64 0)).setCell ⟨w.heap.size + 1, 1, none⟩ (.int .i64 0)).setCell ⟨w.heap.size + 1, 2, none⟩ (.slice none 0 0)) (w.heap.size + 1 + 1) 0 0 0 0) w.heap.size 43 4
  have KZ : Hid (World.ownsRow _ _ _ _ _ _ _ ∧ Below _ _ _) := ⟨OQ, BQ⟩
  obtain ⟨r0, r1, r2, r3, r4, r5, r6⟩ := R
  obtain ⟨⟨f0, f1, f2, f3, f4⟩, f5, f6, f7, f8⟩ := R2
  clear P1 P2 BQ1 BQ OQ
  unfold put4 at RQ RQ2 KZ
  go_wp2_with fail
  clear r0 r1 r2 r3 r4 r5 r6 f0 f1 f2 f3 f4 f5 f6 f7 f8
  generalize (((((((wz.setCell ⟨w.heap.size + 1, 0, none⟩ (.int .i64 0)).setCell ⟨w.heap.size + 1, 1, none⟩ (.int .i64 0)).setCell ⟨w.heap.size + 1, 2, none⟩ (.slice none 0 0)).setCell ⟨w.heap.size + 1 + 1, 0, none⟩ (.int .i64 0)).setCell ⟨w.heap.size + 1 + 1, 1, none⟩ (.int .i64 0)).setCell ⟨w.heap.size + 1 + 1, 2, none⟩ (.int .i64 0)).setCell ⟨w.heap.size + 1 + 1, 3, none⟩ (.int .i64 0)) = wq at *
  obtain ⟨q0, q1, q2, q3, -, -, -⟩ := RQ
  obtain ⟨⟨g0, g1, g2, g3, g4⟩, -, -, -, -⟩ := RQ2
  exact bodyPost_ret (v := .tuple #[.agg #[.int .i64 0, .int .i64 0, .slice none 0 0], .agg #[.int .i64 0, .int .i64 0, .int .i64 0, .int .i64 0], .int .i64 1]) (by simp (maxDischargeDepth := 6) [results, Try.results16, go_sem, q1, q2, q3, g1, g2, g3, g4]) rfl ⟨_, _, rfl, KZ.out.1, KZ.out.2⟩
set_option maxRecDepth 100000 in
set_option maxHeartbeats 16000000 in
theorem specUse_code (ep us : Int) (ad : Addr) (n c : Nat) (M : Nat → KT) (x y : Int) (w : World) (hm : n ≤ maxLen) (hf : Froms w ad M n) (i : Nat) (cd : Int) (ht : tabB ep us M n = true) (HO : Hid (∀ j, j < n → j ≠ i → (M j).1 ≠ x)) (HX : Hid (i < n → (M i).1 = x)) (HC : Hid (∀ z, z = (M i).2.1 → ((z != y) = true ∧ cd = 5) ∨ ((z != y) = false ∧ cd = 0))) (HBW : Hid (ad.block < w.heap.size)) (code : Int) (hcode : cdK i n cd = code) (hc0 : (code != 0) = true) :
    Calls Try.prog 16 #[.agg #[.int .i64 ep, .int .i64 us, .slice (some ad) n c], .int .i64 x, .int .i64 y] w fun e w' => ∃ a' c', e = .returned (.tuple #[.agg #[.int .i64 ep, .int .i64 us, .slice a' n c'], .agg #[.int .i64 0, .int .i64 0, .int .i64 0, .int .i64 0], .int .i64 code]) ∧ w'.ownsRow w.heap.size 43 4 (.slice a' n c') n (krow M n) ∧ Below w.heap.size w w' := by
  have hn16 := tabB_len' ht
  obtain ⟨i0, hi, hz0, hz1, hz2⟩ := infoK_parts
  have N := ((IB3.new w ep us (some ad) n c 39).below (Below.nw _ (.cells #[.int .i64 0, .int .i64 0, .slice none 0 0] 39))).below (Below.nw _ (.cells #[.int .i64 0, .int .i64 0, .int .i64 0, .int .i64 0] 43))
  have R := (Bx3.new (w.alloc (.cells #[.int .i64 ep, .int .i64 us, .slice (some ad) n c] 39)) (.int .i64 0) (.int .i64 0) (.slice none 0 0) 39).below (Below.nw _ (.cells #[.int .i64 0, .int .i64 0, .int .i64 0, .int .i64 0] 43))
  have R2 := Bf4.new ((w.alloc (.cells #[.int .i64 ep, .int .i64 us, .slice (some ad) n c] 39)).alloc (.cells #[.int .i64 0, .int .i64 0, .slice none 0 0] 39)) 0 0 0 0 43
  have CS := ((hf.below (Below.nw w (.cells #[.int .i64 ep, .int .i64 us, .slice (some ad) n c] 39))).below (Below.nw _ (.cells #[.int .i64 0, .int .i64 0, .slice none 0 0] 39))).below (Below.nw _ (.cells #[.int .i64 0, .int .i64 0, .int .i64 0, .int .i64 0] 43))
  have A1 := Below.nw w (.cells #[.int .i64 ep, .int .i64 us, .slice (some ad) n c] 39)
  have A2 := A1.alloc A1.size (.cells #[.int .i64 0, .int .i64 0, .slice none 0 0] 39)
  have B := A2.alloc A2.size (.cells #[.int .i64 0, .int .i64 0, .int .i64 0, .int .i64 0] 43)
  simp only [World.size_alloc] at R R2
  have C := specTab_any ep us (some ad) n c M _ hm CS.src
  clear hf A1 A2
  go_enter Try.func16, Try.ntmps16
  go_upto_region 1 with fail
  generalize ((w.alloc (.cells #[.int .i64 ep, .int .i64 us, .slice (some ad) n c] 39)).alloc (.cells #[.int .i64 0, .int .i64 0, .slice none 0 0] 39)).alloc (.cells #[.int .i64 0, .int .i64 0, .int .i64 0, .int .i64 0] 43) = wa at *
  have hJ1 : w.heap.size + 1 + 1 < wa.heap.size := R2.1.1
  obtain ⟨n9, n0, n1, n2⟩ := id N
  go_wp2_with fail
  refine C.mono ?_
  rintro e wz ⟨rfl, hb⟩
  clear n9 n0 n1 n2
  replace N := N.below hb
  replace R := R.below hb
  replace R2 := R2.below hb
  replace CS := CS.below hb
  replace B := B.trans (hb.mono B.size)
  have hzz := hb.size
  clear hb C
  rw [ht]
  clear ht
  have A3 := Below.nw wz (.cells #[.int .i64 ep, .int .i64 us, .slice none 0 0] 39)
  have A4 := Below.nw (wz.alloc (.cells #[.int .i64 ep, .int .i64 us, .slice none 0 0] 39)) (.cells #[.int .i64 0, .int .i64 0, .int .i64 0, .int .i64 0] 43)
  have O := (Bx3.new wz (.int .i64 ep) (.int .i64 us) (.slice none 0 0) 39).below A4
  have Fx := Bf4.new (wz.alloc (.cells #[.int .i64 ep, .int .i64 us, .slice none 0 0] 39)) 0 0 0 0 43
  simp only [World.size_alloc] at Fx
  obtain ⟨n9, n0, n1, n2⟩ := id N
  have hjo : w.heap.size + 1 + 1 < wz.heap.size := by omega
  go_upto_region 6 with fail
  clear n9 n0 n1 n2
  replace N := (N.below A3).below A4
  replace R := (R.below A3).below A4
  replace R2 := (R2.below A3).below A4
  replace CS := (CS.below A3).below A4
  replace B := (B.trans (A3.mono B.size)).trans (A4.mono (B.trans (A3.mono B.size)).size)
  clear A3 A4
  generalize wz.heap.size = bo at *
  generalize (wz.alloc (.cells #[.int .i64 ep, .int .i64 us, .slice none 0 0] 39)).alloc (.cells #[.int .i64 0, .int .i64 0, .int .i64 0, .int .i64 0] 43) = v1 at *
  go_wp2_with fail
  go_loopw [11, 12] (fun s11 s12 wr => ∃ k : Nat, k ≤ n ∧ s12 = .int .i64 (k : Int) ∧ s11 = .int .i64 (cdK i k cd) ∧ UsInv ep us M w i ad n c bo k wr) (fun _ s12 _ => n - (vI s12).toNat)
  case atStart =>
    refine ⟨0, Nat.zero_le _, rfl, ?_, _, O, ?_, ?_, N, R, R2, CS, B⟩
    · unfold cdK; rw [if_pos (Nat.zero_le _)]
    · have e : ctK i 0 = 0 := by simp [ctK]
      rw [e]; exact World.ownsRow_nil _ _ _ _
    · have e : fdK M i 0 = zK := if_pos (Nat.zero_le _)
      unfold Bf4T; rw [e]; exact Fx
  case round =>
    clear O Fx N R R2 CS B
    obtain ⟨k, hk, rfl, rfl, vk, O, W, Fx, N, R, R2, CS, B⟩ := hrel
    obtain ⟨n0, n1, n2, n3⟩ := id N
    obtain ⟨o0, o1, o2, o3, o4, o5, o6⟩ := id O
    by_cases hlt : k < n
    · have hli : decide ((k : Int) < (n : Int)) = true := decide_eq_true (by omega)
      obtain ⟨b, off, rfl, CZ⟩ : ∃ b off, ad = ⟨b, off, none⟩ ∧ Cs wr b off (n * 4) (MFAsk M) := by
        rcases CS with h | ⟨hs, h⟩
        · omega
        · obtain ⟨b, off, s⟩ := ad
          simp only at hs h
          subst hs
          exact ⟨b, off, rfl, h⟩
      obtain ⟨x0, x1, x2, x3, hM⟩ := tupAsk M k
      obtain ⟨c0, c1, c2, c3⟩ := CZ.elAsk hlt hM
      by_cases hki : k = i
      · subst hki
        have hx0 : Hid (x0 = x) := by have := HX.out hlt; rw [hM] at this; exact this
        have hx0' : (x0 != x) = false := by rw [hx0.out]; exact bne_self_eq_false _
        have e := ctK_same k
        have hb0 : b < w.heap.size := HBW.out
        have hbz := CZ.1
        have HFD : Hid (fdK M k (k + 1) = kT x0 x1 x2 x3) := (fd_here (M := M) (i := k) (cd := cd)).1.trans hM
        have HZ : Hid (x1 = (M k).2.1) := by rw [Hid, hM]
        have HCD : Hid (cdK k (k + 1) cd = cd) := (fd_here (M := M) (i := k) (cd := cd)).2
        have Fy : Bf4 (put4 wr (bo + 1) x0 x1 x2 x3) (bo + 1) x0 x1 x2 x3 := Bf4.set (show Bf4 wr (bo + 1) _ _ _ _ from Fx) x0 x1 x2 x3
        have P4 := put4_but wr (bo + 1) x0 x1 x2 x3
        obtain ⟨⟨u0, u1, u2, u3, u4⟩, u5, u6, u7, u8⟩ := id (show Bf4 wr (bo + 1) _ _ _ _ from Fx)
        have O' := O.but P4 (by omega)
        have W' := own_butK W P4 (by omega)
        have N' := N.but P4 (by omega)
        have R' := R.but P4 (by omega)
        have R2' := R2.but P4 (by omega)
        have CZ' := CZ.but P4 (by omega)
        have B' := B.trans (P4.below (B := w.heap.size) (by omega) B.size)
        have HK : Hid (UsInv ep us M w k ⟨b, off, none⟩ n c bo (k + 1) (put4 wr (bo + 1) x0 x1 x2 x3)) := ⟨vk, O', by rw [e]; exact W', by unfold Bf4T; rw [HFD.out]; exact Fy, N', R', R2', .inr ⟨rfl, CZ'⟩, B'⟩
        clear O' W' N' R' R2' CZ' B' W Fx N R R2 CZ CS B hM e O P4
        go_upto_region 11 with fail
        go_upto_region 12 with fail
        clear n0 n1 n2 n3 o0 o1 o2 o3 o4 o5 o6 c0 c1 c2 c3 u0 u1 u2 u3 u4 u5 u6 u7 u8
        unfold put4 at Fy HK
        generalize (((wr.setCell ⟨bo + 1, 0, none⟩ (.int .i64 x0)).setCell ⟨bo + 1, 1, none⟩ (.int .i64 x1)).setCell ⟨bo + 1, 2, none⟩ (.int .i64 x2)).setCell ⟨bo + 1, 3, none⟩ (.int .i64 x3) = wy at *
        obtain ⟨⟨g0, g1, g2, g3, g4⟩, -, -, -, -⟩ := Fy
        have hcd := HC.out x1 HZ.out
        rcases hcd with ⟨hyy, hcc⟩ | ⟨hyy, hcc⟩
        · have hy1 : (x1 != y) = true := hyy
          go_wp2_with fail
          go_roundw
          case rel => exact ⟨k + 1, by omega, by go_num, by rw [HCD.out, hcc], HK.out⟩
          case measure => simp [vI]; omega
        · have hy1 : (x1 != y) = false := hyy
          go_wp2_with fail
          go_roundw
          case rel => exact ⟨k + 1, by omega, by go_num, by rw [HCD.out, hcc], HK.out⟩
          case measure => simp [vI]; omega
      · have hne : (x0 != x) = true := by have := HO.out k hlt hki; rw [hM] at this; exact bne_iff_ne.2 this
        obtain ⟨ec, en⟩ := cutK_at (M := M) hki
        obtain ⟨ef, ed⟩ := fd_next (M := M) (cd := cd) hki
        have HW : Hid (krow (cutK M i) (ctK i k) ++ [.int .i64 x0, .int .i64 x1, .int .i64 x2, .int .i64 x3] = krow (cutK M i) (ctK i k + 1)) := krow_add (ec.trans hM)
        have hcl := ctK_le i k
        have HEN : Hid (ctK i (k + 1) = ctK i k + 1) := en
        have HEF : Hid (fdK M i (k + 1) = fdK M i k) := ef
        have HED : Hid (cdK i (k + 1) cd = cdK i k cd) := ed
        have hbz : b < bo := by (have hb0 : b < w.heap.size := HBW.out); omega
        have hbj : b < bo + 2 := by omega
        clear ec en ef ed hM CS
        generalize ctK i k = q at *
        generalize fdK M i k = fk at *
        generalize cdK i k cd = ck at *
        go_upto_region 10 with fail
        refine wp_region_held_drew (S := (fun w' => w'.cell? ⟨w.heap.size, 2, none⟩ = some (.slice (some ⟨b, off, none⟩) n c) ∧ w'.cell? ⟨b, off + k * 4, none⟩ = some (.int .i64 x0) ∧ w'.cell? ⟨b, off + k * 4 + 1, none⟩ = some (.int .i64 x1) ∧ w'.cell? ⟨b, off + k * 4 + 2, none⟩ = some (.int .i64 x2) ∧ w'.cell? ⟨b, off + k * 4 + 3, none⟩ = some (.int .i64 x3))) (by kernel_rfl) ?_ (fun hHeld => ?_)
        · first | exact ⟨n3, c0, c1, c2, c3⟩ | (simp (maxDischargeDepth := 6) [go_sem, *]; done)
        clear n0 n1 n2 n3 o0 o1 o2 o3 o4 o5 o6
        replace N := N.drew
        replace O := O.drew
        replace Fx : Bf4T wr.drew (bo + 1) fk := Fx
        replace R := R.drew
        replace R2 := R2.drew
        replace B := Below.drew B
        replace CZ := CZ.drew
        replace W := World.ownsRow.drew W
        replace c0 : wr.drew.cell? _ = _ := c0
        replace c1 : wr.drew.cell? _ = _ := c1
        replace c2 : wr.drew.cell? _ = _ := c2
        replace c3 : wr.drew.cell? _ = _ := c3
        generalize wr.drew = v at *
        (obtain ⟨n0, n1, n2, n3⟩ := id N); (obtain ⟨o0, o1, o2, o3, o4, o5, o6⟩ := id O)
        refine wpAnyH_take (i := 0) (v := ?_) (by rw [List.getElem?_toArray]; rfl) (by kernel_rfl) (by kernel_rfl) (by kernel_rfl) (by intro _ _ _ h; exact h) (Or.inl ⟨by rfl, ?_⟩) (by assumption) ?_
        rotate_left
        · (intro w hSw; (try dsimp only at hSw); go_simp; all_goals with_reducible rfl)
        (try simp only [Act.put, List.setIfInBounds_toArray, List.set_cons_zero, List.set_cons_succ])
        refine wpAnyH_take (i := 2) (v := ?_) (by rw [List.getElem?_toArray]; rfl) (by kernel_rfl) (by kernel_rfl) (by kernel_rfl) (by intro _ _ _ h; exact h) (Or.inl ⟨by rfl, ?_⟩) (by assumption) ?_
        rotate_left
        · (intro w hSw; (try dsimp only at hSw); go_simp; all_goals with_reducible rfl)
        (try simp only [Act.put, List.setIfInBounds_toArray, List.set_cons_zero, List.set_cons_succ])
        refine wpAnyH_take (i := 3) (v := ?_) (by rw [List.getElem?_toArray]; rfl) (by kernel_rfl) (by kernel_rfl) (by kernel_rfl) (by intro _ _ _ h; exact h) (Or.inl ⟨by rfl, ?_⟩) (by assumption) ?_
        rotate_left
        · (intro w hSw; (try dsimp only at hSw); go_simp; all_goals with_reducible rfl)
        (try simp only [Act.put, List.setIfInBounds_toArray, List.set_cons_zero, List.set_cons_succ])
        refine wpAnyH_take (i := 4) (v := ?_) (by rw [List.getElem?_toArray]; rfl) (by kernel_rfl) (by kernel_rfl) (by kernel_rfl) (by intro _ _ _ h; exact h) (Or.inl ⟨by rfl, ?_⟩) (by assumption) ?_
        rotate_left
        · (intro w hSw; (try dsimp only at hSw); go_simp; all_goals with_reducible rfl)
        (try simp only [Act.put, List.setIfInBounds_toArray, List.set_cons_zero, List.set_cons_succ])
        refine wpAnyH_take (i := 5) (v := ?_) (by rw [List.getElem?_toArray]; rfl) (by kernel_rfl) (by kernel_rfl) (by kernel_rfl) (by intro _ _ _ h; exact h) (Or.inl ⟨by rfl, ?_⟩) (by assumption) ?_
        rotate_left
        · (intro w hSw; (try dsimp only at hSw); go_simp; all_goals with_reducible rfl)
        (try simp only [Act.put, List.setIfInBounds_toArray, List.set_cons_zero, List.set_cons_succ])
        refine wpAnyH_take (i := 6) (v := ?_) (by rw [List.getElem?_toArray]; rfl) (by kernel_rfl) (by kernel_rfl) (by kernel_rfl) (by intro _ _ _ h; exact h) (Or.inl ⟨by rfl, ?_⟩) (by assumption) ?_
        rotate_left
        · (intro w hSw; (try dsimp only at hSw); go_simp; all_goals with_reducible rfl)
        (try simp only [Act.put, List.setIfInBounds_toArray, List.set_cons_zero, List.set_cons_succ])
        refine wpAnyH_ready (rs := [1, 7]) (by kernel_rfl) (by simp) ?_
        refine (AllReadyH.cons (by rw [List.getElem?_toArray]; rfl) (fun K hK => ?_) (AllReadyH.cons (by rw [List.getElem?_toArray]; rfl) (fun K hK => ?_) AllReadyH.nil))
        · go_simp
          refine hK.out _ _ ?_ (fun hHeld => ?_)
          · first | exact ⟨n3, c0, c1, c2, c3⟩ | (simp (maxDischargeDepth := 6) [go_sem, *]; done)
          clear hK K
          (try simp only [Act.put, List.setIfInBounds_toArray, List.set_cons_zero, List.set_cons_succ])
          refine wpAnyH_ready (rs := [7]) (by kernel_rfl) (by simp) ?_
          refine (AllReadyH.cons (by rw [List.getElem?_toArray]; rfl) (fun K hK => ?_) AllReadyH.nil)
          go_simp
          (have A := Below.nw v (.cells #[.int .i64 x0, .int .i64 x1, .int .i64 x2, .int .i64 x3] 43)); (have hvz : bo + 2 ≤ v.heap.size := Nat.succ_le_of_lt (show Bf4 v (bo + 1) _ _ _ _ from Fx).1.1); (have HF : Hid (∀ j u, [Value.int .i64 x0, .int .i64 x1, .int .i64 x2, .int .i64 x3][j]? = some u → (v.alloc (.cells #[.int .i64 x0, .int .i64 x1, .int .i64 x2, .int .i64 x3] 43)).cell? ((⟨v.heap.size, 0, none⟩ : Addr).add j) = some u) := fun j u hu => four_at v x0 x1 x2 x3 43 j u hu); clear n0 n1 n2 n3 o0 o1 o2 o3 o4 o5 o6; (replace c0 := (A.cell (p := ⟨b, off + k * 4, none⟩) CZ.1).trans c0); (replace c1 := (A.cell (p := ⟨b, off + k * 4 + 1, none⟩) CZ.1).trans c1); (replace c2 := (A.cell (p := ⟨b, off + k * 4 + 2, none⟩) CZ.1).trans c2); (replace c3 := (A.cell (p := ⟨b, off + k * 4 + 3, none⟩) CZ.1).trans c3); (replace N := N.below A); (replace O := O.below A); (replace Fx : Bf4T _ (bo + 1) fk := Bf4.below Fx A); (replace R := R.below A); (replace R2 := R2.below A); (replace W := World.ownsRow.alloc W (.cells #[.int .i64 x0, .int .i64 x1, .int .i64 x2, .int .i64 x3] 43)); (replace CZ := CZ.below A CZ.1); (replace B := B.trans (A.mono B.size)); (have hsz : bo + 2 ≤ (v.alloc (.cells #[.int .i64 x0, .int .i64 x1, .int .i64 x2, .int .i64 x3] 43)).heap.size := Nat.le_trans hvz A.size); (have hcsz := CZ.1); clear A; (generalize v.alloc (.cells #[.int .i64 x0, .int .i64 x1, .int .i64 x2, .int .i64 x3] 43) = v2 at *); (generalize v.heap.size = jv at *); (obtain ⟨n0, n1, n2, n3⟩ := id N); (obtain ⟨o0, o1, o2, o3, o4, o5, o6⟩ := id O)
          refine hK.out _ _ ?_ (fun hHeld => ?_)
          · first | exact ⟨n3, c0, c1, c2, c3⟩ | (simp (maxDischargeDepth := 6) [go_sem, *]; done)
          clear hK K
          (try simp only [Act.put, List.setIfInBounds_toArray, List.set_cons_zero, List.set_cons_succ])
          refine wpAnyH_ready (rs := [8]) (by kernel_rfl) (by simp) ?_
          refine (AllReadyH.cons (by rw [List.getElem?_toArray]; rfl) (fun K hK => ?_) AllReadyH.nil)
          rw [if_pos (by rfl)]; refine wp_append_own _ _ _ 37 rfl (bo + 2) 43 i0 (.agg #[.int .i64 0, .int .i64 0, .int .i64 0, .int .i64 0]) 4 32 Try.underlying37 hi hz0 hz1 hz2 rfl (by decide) _ _ _ rfl W ⟨jv, 0, none⟩ 1 1 [.int .i64 x0, .int .i64 x1, .int .i64 x2, .int .i64 x3] rfl rfl HF.out (four_one _ _ _ _) (by unfold maxLen; omega) (by omega) hsz ?_; intro v' wn hown' hgrow _; (have G := grown_belowK W hgrow hsz); clear n0 n1 n2 n3 o0 o1 o2 o3 o4 o5 o6; (replace c0 := (G.cell (p := ⟨b, off + k * 4, none⟩) hbj).trans c0); (replace c1 := (G.cell (p := ⟨b, off + k * 4 + 1, none⟩) hbj).trans c1); (replace c2 := (G.cell (p := ⟨b, off + k * 4 + 2, none⟩) hbj).trans c2); (replace c3 := (G.cell (p := ⟨b, off + k * 4 + 3, none⟩) hbj).trans c3); (replace N := N.belB G (by omega)); (replace O := O.belB G (by omega)); (replace Fx : Bf4T _ (bo + 1) fk := Bf4.bel Fx G (by omega)); (replace R := R.belB G (by omega)); (replace R2 := R2.bel G (by omega)); (replace CZ := CZ.below G (by omega)); (replace B := B.trans (G.mono (by omega))); rw [HW.out] at hown'; (obtain ⟨a', c', rfl, _, _, _⟩ := ownF_src hown'); clear hgrow HF; (obtain ⟨n0, n1, n2, n3⟩ := id N); (obtain ⟨o0, o1, o2, o3, o4, o5, o6⟩ := id O)
          refine hK.out _ _ ?_ (fun hHeld => ?_)
          · first | exact ⟨n3, c0, c1, c2, c3⟩ | (simp (maxDischargeDepth := 6) [go_sem, *]; done)
          clear hK K
          (try simp only [Act.put, List.setIfInBounds_toArray, List.set_cons_zero, List.set_cons_succ])
          refine wpAnyH_take (i := 9) (v := ?_) (by rw [List.getElem?_toArray]; rfl) (by kernel_rfl) (by kernel_rfl) (by kernel_rfl) (by intro _ _ _ h; exact h) (Or.inl ⟨by rfl, ?_⟩) (by assumption) ?_
          rotate_left
          · (intro w hSw; (try dsimp only at hSw); go_simp; all_goals with_reducible rfl)
          (try simp only [Act.put, List.setIfInBounds_toArray, List.set_cons_zero, List.set_cons_succ])
          refine wpAnyH_ready (rs := [10]) (by kernel_rfl) (by simp) ?_
          refine (AllReadyH.cons (by rw [List.getElem?_toArray]; rfl) (fun K hK => ?_) AllReadyH.nil)
          go_simp
          refine hK.out _ _ ?_ (fun hHeld => ?_)
          · first | exact ⟨n3, c0, c1, c2, c3⟩ | (simp (maxDischargeDepth := 6) [go_sem, *]; done)
          clear hK K
          (try simp only [Act.put, List.setIfInBounds_toArray, List.set_cons_zero, List.set_cons_succ])
          refine wpAnyH_done (by kernel_rfl) ?_ _
          go_wp2_with fail
          have PB := But.oneK wn bo 2 (.slice a' (q + 1) c')
          go_roundw
          case rel => exact ⟨k + 1, by omega, by go_num, by rw [HED.out], _, O.set2 _, (by rw [HEN.out]; exact own_butK hown' PB (by omega)), (by rw [HEF.out]; exact Bf4.but Fx PB (by omega)), N.but PB (by omega), R.but PB (by omega), R2.but PB (by omega), .inr ⟨rfl, CZ.but PB (by omega)⟩, B.trans (PB.below (by omega) B.size)⟩
          case measure => simp [vI]; omega
        · go_simp
          (have A := Below.nw v (.cells #[.int .i64 x0, .int .i64 x1, .int .i64 x2, .int .i64 x3] 43)); (have hvz : bo + 2 ≤ v.heap.size := Nat.succ_le_of_lt (show Bf4 v (bo + 1) _ _ _ _ from Fx).1.1); (have HF : Hid (∀ j u, [Value.int .i64 x0, .int .i64 x1, .int .i64 x2, .int .i64 x3][j]? = some u → (v.alloc (.cells #[.int .i64 x0, .int .i64 x1, .int .i64 x2, .int .i64 x3] 43)).cell? ((⟨v.heap.size, 0, none⟩ : Addr).add j) = some u) := fun j u hu => four_at v x0 x1 x2 x3 43 j u hu); clear n0 n1 n2 n3 o0 o1 o2 o3 o4 o5 o6; (replace c0 := (A.cell (p := ⟨b, off + k * 4, none⟩) CZ.1).trans c0); (replace c1 := (A.cell (p := ⟨b, off + k * 4 + 1, none⟩) CZ.1).trans c1); (replace c2 := (A.cell (p := ⟨b, off + k * 4 + 2, none⟩) CZ.1).trans c2); (replace c3 := (A.cell (p := ⟨b, off + k * 4 + 3, none⟩) CZ.1).trans c3); (replace N := N.below A); (replace O := O.below A); (replace Fx : Bf4T _ (bo + 1) fk := Bf4.below Fx A); (replace R := R.below A); (replace R2 := R2.below A); (replace W := World.ownsRow.alloc W (.cells #[.int .i64 x0, .int .i64 x1, .int .i64 x2, .int .i64 x3] 43)); (replace CZ := CZ.below A CZ.1); (replace B := B.trans (A.mono B.size)); (have hsz : bo + 2 ≤ (v.alloc (.cells #[.int .i64 x0, .int .i64 x1, .int .i64 x2, .int .i64 x3] 43)).heap.size := Nat.le_trans hvz A.size); (have hcsz := CZ.1); clear A; (generalize v.alloc (.cells #[.int .i64 x0, .int .i64 x1, .int .i64 x2, .int .i64 x3] 43) = v2 at *); (generalize v.heap.size = jv at *); (obtain ⟨n0, n1, n2, n3⟩ := id N); (obtain ⟨o0, o1, o2, o3, o4, o5, o6⟩ := id O)
          refine hK.out _ _ ?_ (fun hHeld => ?_)
          · first | exact ⟨n3, c0, c1, c2, c3⟩ | (simp (maxDischargeDepth := 6) [go_sem, *]; done)
          clear hK K
          (try simp only [Act.put, List.setIfInBounds_toArray, List.set_cons_zero, List.set_cons_succ])
          refine wpAnyH_ready (rs := [1]) (by kernel_rfl) (by simp) ?_
          refine (AllReadyH.cons (by rw [List.getElem?_toArray]; rfl) (fun K hK => ?_) AllReadyH.nil)
          go_simp
          refine hK.out _ _ ?_ (fun hHeld => ?_)
          · first | exact ⟨n3, c0, c1, c2, c3⟩ | (simp (maxDischargeDepth := 6) [go_sem, *]; done)
          clear hK K
          (try simp only [Act.put, List.setIfInBounds_toArray, List.set_cons_zero, List.set_cons_succ])
          refine wpAnyH_ready (rs := [8]) (by kernel_rfl) (by simp) ?_
          refine (AllReadyH.cons (by rw [List.getElem?_toArray]; rfl) (fun K hK => ?_) AllReadyH.nil)
          rw [if_pos (by rfl)]; refine wp_append_own _ _ _ 37 rfl (bo + 2) 43 i0 (.agg #[.int .i64 0, .int .i64 0, .int .i64 0, .int .i64 0]) 4 32 Try.underlying37 hi hz0 hz1 hz2 rfl (by decide) _ _ _ rfl W ⟨jv, 0, none⟩ 1 1 [.int .i64 x0, .int .i64 x1, .int .i64 x2, .int .i64 x3] rfl rfl HF.out (four_one _ _ _ _) (by unfold maxLen; omega) (by omega) hsz ?_; intro v' wn hown' hgrow _; (have G := grown_belowK W hgrow hsz); clear n0 n1 n2 n3 o0 o1 o2 o3 o4 o5 o6; (replace c0 := (G.cell (p := ⟨b, off + k * 4, none⟩) hbj).trans c0); (replace c1 := (G.cell (p := ⟨b, off + k * 4 + 1, none⟩) hbj).trans c1); (replace c2 := (G.cell (p := ⟨b, off + k * 4 + 2, none⟩) hbj).trans c2); (replace c3 := (G.cell (p := ⟨b, off + k * 4 + 3, none⟩) hbj).trans c3); (replace N := N.belB G (by omega)); (replace O := O.belB G (by omega)); (replace Fx : Bf4T _ (bo + 1) fk := Bf4.bel Fx G (by omega)); (replace R := R.belB G (by omega)); (replace R2 := R2.bel G (by omega)); (replace CZ := CZ.below G (by omega)); (replace B := B.trans (G.mono (by omega))); rw [HW.out] at hown'; (obtain ⟨a', c', rfl, _, _, _⟩ := ownF_src hown'); clear hgrow HF; (obtain ⟨n0, n1, n2, n3⟩ := id N); (obtain ⟨o0, o1, o2, o3, o4, o5, o6⟩ := id O)
          refine hK.out _ _ ?_ (fun hHeld => ?_)
          · first | exact ⟨n3, c0, c1, c2, c3⟩ | (simp (maxDischargeDepth := 6) [go_sem, *]; done)
          clear hK K
          (try simp only [Act.put, List.setIfInBounds_toArray, List.set_cons_zero, List.set_cons_succ])
          refine wpAnyH_take (i := 9) (v := ?_) (by rw [List.getElem?_toArray]; rfl) (by kernel_rfl) (by kernel_rfl) (by kernel_rfl) (by intro _ _ _ h; exact h) (Or.inl ⟨by rfl, ?_⟩) (by assumption) ?_
          rotate_left
          · (intro w hSw; (try dsimp only at hSw); go_simp; all_goals with_reducible rfl)
          (try simp only [Act.put, List.setIfInBounds_toArray, List.set_cons_zero, List.set_cons_succ])
          refine wpAnyH_ready (rs := [10]) (by kernel_rfl) (by simp) ?_
          refine (AllReadyH.cons (by rw [List.getElem?_toArray]; rfl) (fun K hK => ?_) AllReadyH.nil)
          go_simp
          refine hK.out _ _ ?_ (fun hHeld => ?_)
          · first | exact ⟨n3, c0, c1, c2, c3⟩ | (simp (maxDischargeDepth := 6) [go_sem, *]; done)
          clear hK K
          (try simp only [Act.put, List.setIfInBounds_toArray, List.set_cons_zero, List.set_cons_succ])
          refine wpAnyH_done (by kernel_rfl) ?_ _
          go_wp2_with fail
          have PB := But.oneK wn bo 2 (.slice a' (q + 1) c')
          go_roundw
          case rel => exact ⟨k + 1, by omega, by go_num, by rw [HED.out], _, O.set2 _, (by rw [HEN.out]; exact own_butK hown' PB (by omega)), (by rw [HEF.out]; exact Bf4.but Fx PB (by omega)), N.but PB (by omega), R.but PB (by omega), R2.but PB (by omega), .inr ⟨rfl, CZ.but PB (by omega)⟩, B.trans (PB.below (by omega) B.size)⟩
          case measure => simp [vI]; omega
    · have hkn : k = n := by omega
      subst hkn
      have hli : decide ((k : Int) < (k : Int)) = false := decide_eq_false (by omega)
      rw [hcode]
      have hcn := CS
      clear W Fx O o0 o1 o2 o3 o4 o5 o6
      go_wp2_with fail
      refine (l7Copy_any ep us ad k c M _ (by omega) hcn).mono ?_
      rintro e w6 ⟨a', c', rfl, OW, hb6⟩
      have hw5 : w.heap.size + 1 + 1 < wr.heap.size := R2.1.1
      replace R := R.below hb6
      replace R2 := R2.below hb6
      have hw56 : w.heap.size ≤ wr.heap.size := by omega
      replace B := B.trans (hb6.mono B.size)
      clear hb6 CS hcn N n0 n1 n2 n3
      have P1 := put3_butK w6 (w.heap.size + 1) (.int .i64 ep) (.int .i64 us) (.slice a' k c')
      have RQ := R.set (.int .i64 ep) (.int .i64 us) (.slice a' k c')
      have P2 := put4_but (((w6.setCell ⟨w.heap.size + 1, 0, none⟩ (.int .i64 ep)).setCell ⟨w.heap.size + 1, 1, none⟩ (.int .i64 us)).setCell ⟨w.heap.size + 1, 2, none⟩ (.slice a' k c')) (w.heap.size + 1 + 1) 0 0 0 0
      have RQ2 := (R2.but P1 (by omega)).set 0 0 0 0
      replace RQ := RQ.but P2 (by omega)
      have BQ1 := B.trans (P1.below (B := w.heap.size) (by omega) B.size)
      have BQ := BQ1.trans (P2.below (B := w.heap.size) (by omega) BQ1.size)
      have OQ := ownK_le (base' := w.heap.size) (own_butK (own_butK OW P1 (by omega)) P2 (by omega)) hw56
      have KZ : Hid (World.ownsRow _ _ _ _ _ _ _ ∧ Below _ _ _) := ⟨OQ, BQ⟩
      obtain ⟨r0, r1, r2, r3, r4, r5, r6⟩ := R
      obtain ⟨⟨f0, f1, f2, f3, f4⟩, f5, f6, f7, f8⟩ := R2
      clear P1 P2 BQ1 BQ OQ
      unfold put4 at RQ RQ2 KZ
      go_wp2_with fail
      clear r0 r1 r2 r3 r4 r5 r6 f0 f1 f2 f3 f4 f5 f6 f7 f8
      generalize (((((((w6.setCell ⟨w.heap.size + 1, 0, none⟩ (.int .i64 ep)).setCell ⟨w.heap.size + 1, 1, none⟩ (.int .i64 us)).setCell ⟨w.heap.size + 1, 2, none⟩ (.slice a' k c')).setCell ⟨w.heap.size + 1 + 1, 0, none⟩ (.int .i64 0)).setCell ⟨w.heap.size + 1 + 1, 1, none⟩ (.int .i64 0)).setCell ⟨w.heap.size + 1 + 1, 2, none⟩ (.int .i64 0)).setCell ⟨w.heap.size + 1 + 1, 3, none⟩ (.int .i64 0)) = wq at *
      obtain ⟨q0, q1, q2, q3, -, -, -⟩ := RQ
      obtain ⟨⟨g0, g1, g2, g3, g4⟩, -, -, -, -⟩ := RQ2
      exact bodyPost_ret (v := .tuple #[.agg #[.int .i64 ep, .int .i64 us, .slice a' k c'], .agg #[.int .i64 0, .int .i64 0, .int .i64 0, .int .i64 0], .int .i64 code]) (by simp (maxDischargeDepth := 6) [results, Try.results16, go_sem, q1, q2, q3, g1, g2, g3, g4]) rfl ⟨_, _, rfl, KZ.out.1, KZ.out.2⟩
set_option maxRecDepth 100000 in
set_option maxHeartbeats 16000000 in
theorem specUse_done (ep us : Int) (ad : Addr) (n c : Nat) (M : Nat → KT) (x y : Int) (w : World) (hm : n ≤ maxLen) (hf : Froms w ad M n) (i : Nat) (cd : Int) (ht : tabB ep us M n = true) (HO : Hid (∀ j, j < n → j ≠ i → (M j).1 ≠ x)) (HX : Hid (i < n → (M i).1 = x)) (HC : Hid (∀ z, z = (M i).2.1 → ((z != y) = true ∧ cd = 5) ∨ ((z != y) = false ∧ cd = 0))) (HBW : Hid (ad.block < w.heap.size)) (z0 z1 z2 z3 : Int) (hin : i < n) (hMi : Hid (M i = kT z0 z1 z2 z3)) (hc0 : Hid (cd = 0)) :
    Calls Try.prog 16 #[.agg #[.int .i64 ep, .int .i64 us, .slice (some ad) n c], .int .i64 x, .int .i64 y] w fun e w' => ∃ a' c', e = .returned (.tuple #[.agg #[.int .i64 ep, .int .i64 us, .slice a' (n - 1) c'], .agg #[.int .i64 z0, .int .i64 z1, .int .i64 z2, .int .i64 z3], .int .i64 0]) ∧ w'.ownsRow w.heap.size 43 4 (.slice a' (n - 1) c') (n - 1) (krow (cutK M i) (n - 1)) ∧ Below w.heap.size w w' := by
  have hn16 := tabB_len' ht
  obtain ⟨i0, hi, hz0, hz1, hz2⟩ := infoK_parts
  have N := ((IB3.new w ep us (some ad) n c 39).below (Below.nw _ (.cells #[.int .i64 0, .int .i64 0, .slice none 0 0] 39))).below (Below.nw _ (.cells #[.int .i64 0, .int .i64 0, .int .i64 0, .int .i64 0] 43))
  have R := (Bx3.new (w.alloc (.cells #[.int .i64 ep, .int .i64 us, .slice (some ad) n c] 39)) (.int .i64 0) (.int .i64 0) (.slice none 0 0) 39).below (Below.nw _ (.cells #[.int .i64 0, .int .i64 0, .int .i64 0, .int .i64 0] 43))
  have R2 := Bf4.new ((w.alloc (.cells #[.int .i64 ep, .int .i64 us, .slice (some ad) n c] 39)).alloc (.cells #[.int .i64 0, .int .i64 0, .slice none 0 0] 39)) 0 0 0 0 43
  have CS := ((hf.below (Below.nw w (.cells #[.int .i64 ep, .int .i64 us, .slice (some ad) n c] 39))).below (Below.nw _ (.cells #[.int .i64 0, .int .i64 0, .slice none 0 0] 39))).below (Below.nw _ (.cells #[.int .i64 0, .int .i64 0, .int .i64 0, .int .i64 0] 43))
  have A1 := Below.nw w (.cells #[.int .i64 ep, .int .i64 us, .slice (some ad) n c] 39)
  have A2 := A1.alloc A1.size (.cells #[.int .i64 0, .int .i64 0, .slice none 0 0] 39)
  have B := A2.alloc A2.size (.cells #[.int .i64 0, .int .i64 0, .int .i64 0, .int .i64 0] 43)
  simp only [World.size_alloc] at R R2
  have C := specTab_any ep us (some ad) n c M _ hm CS.src
  clear hf A1 A2
  go_enter Try.func16, Try.ntmps16
  go_upto_region 1 with fail
  generalize ((w.alloc (.cells #[.int .i64 ep, .int .i64 us, .slice (some ad) n c] 39)).alloc (.cells #[.int .i64 0, .int .i64 0, .slice none 0 0] 39)).alloc (.cells #[.int .i64 0, .int .i64 0, .int .i64 0, .int .i64 0] 43) = wa at *
  have hJ1 : w.heap.size + 1 + 1 < wa.heap.size := R2.1.1
  obtain ⟨n9, n0, n1, n2⟩ := id N
  go_wp2_with fail
  refine C.mono ?_
  rintro e wz ⟨rfl, hb⟩
  clear n9 n0 n1 n2
  replace N := N.below hb
  replace R := R.below hb
  replace R2 := R2.below hb
  replace CS := CS.below hb
  replace B := B.trans (hb.mono B.size)
  have hzz := hb.size
  clear hb C
  rw [ht]
  clear ht
  have A3 := Below.nw wz (.cells #[.int .i64 ep, .int .i64 us, .slice none 0 0] 39)
  have A4 := Below.nw (wz.alloc (.cells #[.int .i64 ep, .int .i64 us, .slice none 0 0] 39)) (.cells #[.int .i64 0, .int .i64 0, .int .i64 0, .int .i64 0] 43)
  have O := (Bx3.new wz (.int .i64 ep) (.int .i64 us) (.slice none 0 0) 39).below A4
  have Fx := Bf4.new (wz.alloc (.cells #[.int .i64 ep, .int .i64 us, .slice none 0 0] 39)) 0 0 0 0 43
  simp only [World.size_alloc] at Fx
  obtain ⟨n9, n0, n1, n2⟩ := id N
  have hjo : w.heap.size + 1 + 1 < wz.heap.size := by omega
  go_upto_region 6 with fail
  clear n9 n0 n1 n2
  replace N := (N.below A3).below A4
  replace R := (R.below A3).below A4
  replace R2 := (R2.below A3).below A4
  replace CS := (CS.below A3).below A4
  replace B := (B.trans (A3.mono B.size)).trans (A4.mono (B.trans (A3.mono B.size)).size)
  clear A3 A4
  generalize wz.heap.size = bo at *
  generalize (wz.alloc (.cells #[.int .i64 ep, .int .i64 us, .slice none 0 0] 39)).alloc (.cells #[.int .i64 0, .int .i64 0, .int .i64 0, .int .i64 0] 43) = v1 at *
  go_wp2_with fail
  go_loopw [11, 12] (fun s11 s12 wr => ∃ k : Nat, k ≤ n ∧ s12 = .int .i64 (k : Int) ∧ s11 = .int .i64 (cdK i k cd) ∧ UsInv ep us M w i ad n c bo k wr) (fun _ s12 _ => n - (vI s12).toNat)
  case atStart =>
    refine ⟨0, Nat.zero_le _, rfl, ?_, _, O, ?_, ?_, N, R, R2, CS, B⟩
    · unfold cdK; rw [if_pos (Nat.zero_le _)]
    · have e : ctK i 0 = 0 := by simp [ctK]
      rw [e]; exact World.ownsRow_nil _ _ _ _
    · have e : fdK M i 0 = zK := if_pos (Nat.zero_le _)
      unfold Bf4T; rw [e]; exact Fx
  case round =>
    clear O Fx N R R2 CS B
    obtain ⟨k, hk, rfl, rfl, vk, O, W, Fx, N, R, R2, CS, B⟩ := hrel
    obtain ⟨n0, n1, n2, n3⟩ := id N
    obtain ⟨o0, o1, o2, o3, o4, o5, o6⟩ := id O
    by_cases hlt : k < n
    · have hli : decide ((k : Int) < (n : Int)) = true := decide_eq_true (by omega)
      obtain ⟨b, off, rfl, CZ⟩ : ∃ b off, ad = ⟨b, off, none⟩ ∧ Cs wr b off (n * 4) (MFAsk M) := by
        rcases CS with h | ⟨hs, h⟩
        · omega
        · obtain ⟨b, off, s⟩ := ad
          simp only at hs h
          subst hs
          exact ⟨b, off, rfl, h⟩
      obtain ⟨x0, x1, x2, x3, hM⟩ := tupAsk M k
      obtain ⟨c0, c1, c2, c3⟩ := CZ.elAsk hlt hM
      by_cases hki : k = i
      · subst hki
        have hx0 : Hid (x0 = x) := by have := HX.out hlt; rw [hM] at this; exact this
        have hx0' : (x0 != x) = false := by rw [hx0.out]; exact bne_self_eq_false _
        have e := ctK_same k
        have hb0 : b < w.heap.size := HBW.out
        have hbz := CZ.1
        have HFD : Hid (fdK M k (k + 1) = kT x0 x1 x2 x3) := (fd_here (M := M) (i := k) (cd := cd)).1.trans hM
        have HZ : Hid (x1 = (M k).2.1) := by rw [Hid, hM]
        have HCD : Hid (cdK k (k + 1) cd = cd) := (fd_here (M := M) (i := k) (cd := cd)).2
        have Fy : Bf4 (put4 wr (bo + 1) x0 x1 x2 x3) (bo + 1) x0 x1 x2 x3 := Bf4.set (show Bf4 wr (bo + 1) _ _ _ _ from Fx) x0 x1 x2 x3
        have P4 := put4_but wr (bo + 1) x0 x1 x2 x3
        obtain ⟨⟨u0, u1, u2, u3, u4⟩, u5, u6, u7, u8⟩ := id (show Bf4 wr (bo + 1) _ _ _ _ from Fx)
        have O' := O.but P4 (by omega)
        have W' := own_butK W P4 (by omega)
        have N' := N.but P4 (by omega)
        have R' := R.but P4 (by omega)
        have R2' := R2.but P4 (by omega)
        have CZ' := CZ.but P4 (by omega)
        have B' := B.trans (P4.below (B := w.heap.size) (by omega) B.size)
        have HK : Hid (UsInv ep us M w k ⟨b, off, none⟩ n c bo (k + 1) (put4 wr (bo + 1) x0 x1 x2 x3)) := ⟨vk, O', by rw [e]; exact W', by unfold Bf4T; rw [HFD.out]; exact Fy, N', R', R2', .inr ⟨rfl, CZ'⟩, B'⟩
        clear O' W' N' R' R2' CZ' B' W Fx N R R2 CZ CS B hM e O P4
        go_upto_region 11 with fail
        go_upto_region 12 with fail
        clear n0 n1 n2 n3 o0 o1 o2 o3 o4 o5 o6 c0 c1 c2 c3 u0 u1 u2 u3 u4 u5 u6 u7 u8
        unfold put4 at Fy HK
        generalize (((wr.setCell ⟨bo + 1, 0, none⟩ (.int .i64 x0)).setCell ⟨bo + 1, 1, none⟩ (.int .i64 x1)).setCell ⟨bo + 1, 2, none⟩ (.int .i64 x2)).setCell ⟨bo + 1, 3, none⟩ (.int .i64 x3) = wy at *
        obtain ⟨⟨g0, g1, g2, g3, g4⟩, -, -, -, -⟩ := Fy
        have hcd := HC.out x1 HZ.out
        rcases hcd with ⟨hyy, hcc⟩ | ⟨hyy, hcc⟩
        · have hy1 : (x1 != y) = true := hyy
          go_wp2_with fail
          go_roundw
          case rel => exact ⟨k + 1, by omega, by go_num, by rw [HCD.out, hcc], HK.out⟩
          case measure => simp [vI]; omega
        · have hy1 : (x1 != y) = false := hyy
          go_wp2_with fail
          go_roundw
          case rel => exact ⟨k + 1, by omega, by go_num, by rw [HCD.out, hcc], HK.out⟩
          case measure => simp [vI]; omega
      · have hne : (x0 != x) = true := by have := HO.out k hlt hki; rw [hM] at this; exact bne_iff_ne.2 this
        obtain ⟨ec, en⟩ := cutK_at (M := M) hki
        obtain ⟨ef, ed⟩ := fd_next (M := M) (cd := cd) hki
        have HW : Hid (krow (cutK M i) (ctK i k) ++ [.int .i64 x0, .int .i64 x1, .int .i64 x2, .int .i64 x3] = krow (cutK M i) (ctK i k + 1)) := krow_add (ec.trans hM)
        have hcl := ctK_le i k
        have HEN : Hid (ctK i (k + 1) = ctK i k + 1) := en
        have HEF : Hid (fdK M i (k + 1) = fdK M i k) := ef
        have HED : Hid (cdK i (k + 1) cd = cdK i k cd) := ed
        have hbz : b < bo := by (have hb0 : b < w.heap.size := HBW.out); omega
        have hbj : b < bo + 2 := by omega
        clear ec en ef ed hM CS
        generalize ctK i k = q at *
        generalize fdK M i k = fk at *
        generalize cdK i k cd = ck at *
        go_upto_region 10 with fail
        refine wp_region_held_drew (S := (fun w' => w'.cell? ⟨w.heap.size, 2, none⟩ = some (.slice (some ⟨b, off, none⟩) n c) ∧ w'.cell? ⟨b, off + k * 4, none⟩ = some (.int .i64 x0) ∧ w'.cell? ⟨b, off + k * 4 + 1, none⟩ = some (.int .i64 x1) ∧ w'.cell? ⟨b, off + k * 4 + 2, none⟩ = some (.int .i64 x2) ∧ w'.cell? ⟨b, off + k * 4 + 3, none⟩ = some (.int .i64 x3))) (by kernel_rfl) ?_ (fun hHeld => ?_)
        · first | exact ⟨n3, c0, c1, c2, c3⟩ | (simp (maxDischargeDepth := 6) [go_sem, *]; done)
        clear n0 n1 n2 n3 o0 o1 o2 o3 o4 o5 o6
        replace N := N.drew
        replace O := O.drew
        replace Fx : Bf4T wr.drew (bo + 1) fk := Fx
        replace R := R.drew
        replace R2 := R2.drew
        replace B := Below.drew B
        replace CZ := CZ.drew
        replace W := World.ownsRow.drew W
        replace c0 : wr.drew.cell? _ = _ := c0
        replace c1 : wr.drew.cell? _ = _ := c1
        replace c2 : wr.drew.cell? _ = _ := c2
        replace c3 : wr.drew.cell? _ = _ := c3
        generalize wr.drew = v at *
        (obtain ⟨n0, n1, n2, n3⟩ := id N); (obtain ⟨o0, o1, o2, o3, o4, o5, o6⟩ := id O)
        refine wpAnyH_take (i := 0) (v := ?_) (by rw [List.getElem?_toArray]; rfl) (by kernel_rfl) (by kernel_rfl) (by kernel_rfl) (by intro _ _ _ h; exact h) (Or.inl ⟨by rfl, ?_⟩) (by assumption) ?_
        rotate_left
        · (intro w hSw; (try dsimp only at hSw); go_simp; all_goals with_reducible rfl)
        (try simp only [Act.put, List.setIfInBounds_toArray, List.set_cons_zero, List.set_cons_succ])
        refine wpAnyH_take (i := 2) (v := ?_) (by rw [List.getElem?_toArray]; rfl) (by kernel_rfl) (by kernel_rfl) (by kernel_rfl) (by intro _ _ _ h; exact h) (Or.inl ⟨by rfl, ?_⟩) (by assumption) ?_
        rotate_left
        · (intro w hSw; (try dsimp only at hSw); go_simp; all_goals with_reducible rfl)
        (try simp only [Act.put, List.setIfInBounds_toArray, List.set_cons_zero, List.set_cons_succ])
        refine wpAnyH_take (i := 3) (v := ?_) (by rw [List.getElem?_toArray]; rfl) (by kernel_rfl) (by kernel_rfl) (by kernel_rfl) (by intro _ _ _ h; exact h) (Or.inl ⟨by rfl, ?_⟩) (by assumption) ?_
        rotate_left
        · (intro w hSw; (try dsimp only at hSw); go_simp; all_goals with_reducible rfl)
        (try simp only [Act.put, List.setIfInBounds_toArray, List.set_cons_zero, List.set_cons_succ])
        refine wpAnyH_take (i := 4) (v := ?_) (by rw [List.getElem?_toArray]; rfl) (by kernel_rfl) (by kernel_rfl) (by kernel_rfl) (by intro _ _ _ h; exact h) (Or.inl ⟨by rfl, ?_⟩) (by assumption) ?_
        rotate_left
        · (intro w hSw; (try dsimp only at hSw); go_simp; all_goals with_reducible rfl)
        (try simp only [Act.put, List.setIfInBounds_toArray, List.set_cons_zero, List.set_cons_succ])
        refine wpAnyH_take (i := 5) (v := ?_) (by rw [List.getElem?_toArray]; rfl) (by kernel_rfl) (by kernel_rfl) (by kernel_rfl) (by intro _ _ _ h; exact h) (Or.inl ⟨by rfl, ?_⟩) (by assumption) ?_
        rotate_left
        · (intro w hSw; (try dsimp only at hSw); go_simp; all_goals with_reducible rfl)
        (try simp only [Act.put, List.setIfInBounds_toArray, List.set_cons_zero, List.set_cons_succ])
        refine wpAnyH_take (i := 6) (v := ?_) (by rw [List.getElem?_toArray]; rfl) (by kernel_rfl) (by kernel_rfl) (by kernel_rfl) (by intro _ _ _ h; exact h) (Or.inl ⟨by rfl, ?_⟩) (by assumption) ?_
        rotate_left
        · (intro w hSw; (try dsimp only at hSw); go_simp; all_goals with_reducible rfl)
        (try simp only [Act.put, List.setIfInBounds_toArray, List.set_cons_zero, List.set_cons_succ])
        refine wpAnyH_ready (rs := [1, 7]) (by kernel_rfl) (by simp) ?_
        refine (AllReadyH.cons (by rw [List.getElem?_toArray]; rfl) (fun K hK => ?_) (AllReadyH.cons (by rw [List.getElem?_toArray]; rfl) (fun K hK => ?_) AllReadyH.nil))
        · go_simp
          refine hK.out _ _ ?_ (fun hHeld => ?_)
          · first | exact ⟨n3, c0, c1, c2, c3⟩ | (simp (maxDischargeDepth := 6) [go_sem, *]; done)
          clear hK K
          (try simp only [Act.put, List.setIfInBounds_toArray, List.set_cons_zero, List.set_cons_succ])
          refine wpAnyH_ready (rs := [7]) (by kernel_rfl) (by simp) ?_
          refine (AllReadyH.cons (by rw [List.getElem?_toArray]; rfl) (fun K hK => ?_) AllReadyH.nil)
          go_simp
          (have A := Below.nw v (.cells #[.int .i64 x0, .int .i64 x1, .int .i64 x2, .int .i64 x3] 43)); (have hvz : bo + 2 ≤ v.heap.size := Nat.succ_le_of_lt (show Bf4 v (bo + 1) _ _ _ _ from Fx).1.1); (have HF : Hid (∀ j u, [Value.int .i64 x0, .int .i64 x1, .int .i64 x2, .int .i64 x3][j]? = some u → (v.alloc (.cells #[.int .i64 x0, .int .i64 x1, .int .i64 x2, .int .i64 x3] 43)).cell? ((⟨v.heap.size, 0, none⟩ : Addr).add j) = some u) := fun j u hu => four_at v x0 x1 x2 x3 43 j u hu); clear n0 n1 n2 n3 o0 o1 o2 o3 o4 o5 o6; (replace c0 := (A.cell (p := ⟨b, off + k * 4, none⟩) CZ.1).trans c0); (replace c1 := (A.cell (p := ⟨b, off + k * 4 + 1, none⟩) CZ.1).trans c1); (replace c2 := (A.cell (p := ⟨b, off + k * 4 + 2, none⟩) CZ.1).trans c2); (replace c3 := (A.cell (p := ⟨b, off + k * 4 + 3, none⟩) CZ.1).trans c3); (replace N := N.below A); (replace O := O.below A); (replace Fx : Bf4T _ (bo + 1) fk := Bf4.below Fx A); (replace R := R.below A); (replace R2 := R2.below A); (replace W := World.ownsRow.alloc W (.cells #[.int .i64 x0, .int .i64 x1, .int .i64 x2, .int .i64 x3] 43)); (replace CZ := CZ.below A CZ.1); (replace B := B.trans (A.mono B.size)); (have hsz : bo + 2 ≤ (v.alloc (.cells #[.int .i64 x0, .int .i64 x1, .int .i64 x2, .int .i64 x3] 43)).heap.size := Nat.le_trans hvz A.size); (have hcsz := CZ.1); clear A; (generalize v.alloc (.cells #[.int .i64 x0, .int .i64 x1, .int .i64 x2, .int .i64 x3] 43) = v2 at *); (generalize v.heap.size = jv at *); (obtain ⟨n0, n1, n2, n3⟩ := id N); (obtain ⟨o0, o1, o2, o3, o4, o5, o6⟩ := id O)
          refine hK.out _ _ ?_ (fun hHeld => ?_)
          · first | exact ⟨n3, c0, c1, c2, c3⟩ | (simp (maxDischargeDepth := 6) [go_sem, *]; done)
          clear hK K
          (try simp only [Act.put, List.setIfInBounds_toArray, List.set_cons_zero, List.set_cons_succ])
          refine wpAnyH_ready (rs := [8]) (by kernel_rfl) (by simp) ?_
          refine (AllReadyH.cons (by rw [List.getElem?_toArray]; rfl) (fun K hK => ?_) AllReadyH.nil)
          rw [if_pos (by rfl)]; refine wp_append_own _ _ _ 37 rfl (bo + 2) 43 i0 (.agg #[.int .i64 0, .int .i64 0, .int .i64 0, .int .i64 0]) 4 32 Try.underlying37 hi hz0 hz1 hz2 rfl (by decide) _ _ _ rfl W ⟨jv, 0, none⟩ 1 1 [.int .i64 x0, .int .i64 x1, .int .i64 x2, .int .i64 x3] rfl rfl HF.out (four_one _ _ _ _) (by unfold maxLen; omega) (by omega) hsz ?_; intro v' wn hown' hgrow _; (have G := grown_belowK W hgrow hsz); clear n0 n1 n2 n3 o0 o1 o2 o3 o4 o5 o6; (replace c0 := (G.cell (p := ⟨b, off + k * 4, none⟩) hbj).trans c0); (replace c1 := (G.cell (p := ⟨b, off + k * 4 + 1, none⟩) hbj).trans c1); (replace c2 := (G.cell (p := ⟨b, off + k * 4 + 2, none⟩) hbj).trans c2); (replace c3 := (G.cell (p := ⟨b, off + k * 4 + 3, none⟩) hbj).trans c3); (replace N := N.belB G (by omega)); (replace O := O.belB G (by omega)); (replace Fx : Bf4T _ (bo + 1) fk := Bf4.bel Fx G (by omega)); (replace R := R.belB G (by omega)); (replace R2 := R2.bel G (by omega)); (replace CZ := CZ.below G (by omega)); (replace B := B.trans (G.mono (by omega))); rw [HW.out] at hown'; (obtain ⟨a', c', rfl, _, _, _⟩ := ownF_src hown'); clear hgrow HF; (obtain ⟨n0, n1, n2, n3⟩ := id N); (obtain ⟨o0, o1, o2, o3, o4, o5, o6⟩ := id O)
          refine hK.out _ _ ?_ (fun hHeld => ?_)
          · first | exact ⟨n3, c0, c1, c2, c3⟩ | (simp (maxDischargeDepth := 6) [go_sem, *]; done)
          clear hK K
          (try simp only [Act.put, List.setIfInBounds_toArray, List.set_cons_zero, List.set_cons_succ])
          refine wpAnyH_take (i := 9) (v := ?_) (by rw [List.getElem?_toArray]; rfl) (by kernel_rfl) (by kernel_rfl) (by kernel_rfl) (by intro _ _ _ h; exact h) (Or.inl ⟨by rfl, ?_⟩) (by assumption) ?_
          rotate_left
          · (intro w hSw; (try dsimp only at hSw); go_simp; all_goals with_reducible rfl)
          (try simp only [Act.put, List.setIfInBounds_toArray, List.set_cons_zero, List.set_cons_succ])
          refine wpAnyH_ready (rs := [10]) (by kernel_rfl) (by simp) ?_
          refine (AllReadyH.cons (by rw [List.getElem?_toArray]; rfl) (fun K hK => ?_) AllReadyH.nil)
          go_simp
          refine hK.out _ _ ?_ (fun hHeld => ?_)
          · first | exact ⟨n3, c0, c1, c2, c3⟩ | (simp (maxDischargeDepth := 6) [go_sem, *]; done)
          clear hK K
          (try simp only [Act.put, List.setIfInBounds_toArray, List.set_cons_zero, List.set_cons_succ])
          refine wpAnyH_done (by kernel_rfl) ?_ _
          go_wp2_with fail
          have PB := But.oneK wn bo 2 (.slice a' (q + 1) c')
          go_roundw
          case rel => exact ⟨k + 1, by omega, by go_num, by rw [HED.out], _, O.set2 _, (by rw [HEN.out]; exact own_butK hown' PB (by omega)), (by rw [HEF.out]; exact Bf4.but Fx PB (by omega)), N.but PB (by omega), R.but PB (by omega), R2.but PB (by omega), .inr ⟨rfl, CZ.but PB (by omega)⟩, B.trans (PB.below (by omega) B.size)⟩
          case measure => simp [vI]; omega
        · go_simp
          (have A := Below.nw v (.cells #[.int .i64 x0, .int .i64 x1, .int .i64 x2, .int .i64 x3] 43)); (have hvz : bo + 2 ≤ v.heap.size := Nat.succ_le_of_lt (show Bf4 v (bo + 1) _ _ _ _ from Fx).1.1); (have HF : Hid (∀ j u, [Value.int .i64 x0, .int .i64 x1, .int .i64 x2, .int .i64 x3][j]? = some u → (v.alloc (.cells #[.int .i64 x0, .int .i64 x1, .int .i64 x2, .int .i64 x3] 43)).cell? ((⟨v.heap.size, 0, none⟩ : Addr).add j) = some u) := fun j u hu => four_at v x0 x1 x2 x3 43 j u hu); clear n0 n1 n2 n3 o0 o1 o2 o3 o4 o5 o6; (replace c0 := (A.cell (p := ⟨b, off + k * 4, none⟩) CZ.1).trans c0); (replace c1 := (A.cell (p := ⟨b, off + k * 4 + 1, none⟩) CZ.1).trans c1); (replace c2 := (A.cell (p := ⟨b, off + k * 4 + 2, none⟩) CZ.1).trans c2); (replace c3 := (A.cell (p := ⟨b, off + k * 4 + 3, none⟩) CZ.1).trans c3); (replace N := N.below A); (replace O := O.below A); (replace Fx : Bf4T _ (bo + 1) fk := Bf4.below Fx A); (replace R := R.below A); (replace R2 := R2.below A); (replace W := World.ownsRow.alloc W (.cells #[.int .i64 x0, .int .i64 x1, .int .i64 x2, .int .i64 x3] 43)); (replace CZ := CZ.below A CZ.1); (replace B := B.trans (A.mono B.size)); (have hsz : bo + 2 ≤ (v.alloc (.cells #[.int .i64 x0, .int .i64 x1, .int .i64 x2, .int .i64 x3] 43)).heap.size := Nat.le_trans hvz A.size); (have hcsz := CZ.1); clear A; (generalize v.alloc (.cells #[.int .i64 x0, .int .i64 x1, .int .i64 x2, .int .i64 x3] 43) = v2 at *); (generalize v.heap.size = jv at *); (obtain ⟨n0, n1, n2, n3⟩ := id N); (obtain ⟨o0, o1, o2, o3, o4, o5, o6⟩ := id O)
          refine hK.out _ _ ?_ (fun hHeld => ?_)
          · first | exact ⟨n3, c0, c1, c2, c3⟩ | (simp (maxDischargeDepth := 6) [go_sem, *]; done)
          clear hK K
          (try simp only [Act.put, List.setIfInBounds_toArray, List.set_cons_zero, List.set_cons_succ])
          refine wpAnyH_ready (rs := [1]) (by kernel_rfl) (by simp) ?_
          refine (AllReadyH.cons (by rw [List.getElem?_toArray]; rfl) (fun K hK => ?_) AllReadyH.nil)
          go_simp
          refine hK.out _ _ ?_ (fun hHeld => ?_)
          · first | exact ⟨n3, c0, c1, c2, c3⟩ | (simp (maxDischargeDepth := 6) [go_sem, *]; done)
          clear hK K
          (try simp only [Act.put, List.setIfInBounds_toArray, List.set_cons_zero, List.set_cons_succ])
          refine wpAnyH_ready (rs := [8]) (by kernel_rfl) (by simp) ?_
          refine (AllReadyH.cons (by rw [List.getElem?_toArray]; rfl) (fun K hK => ?_) AllReadyH.nil)
          rw [if_pos (by rfl)]; refine wp_append_own _ _ _ 37 rfl (bo + 2) 43 i0 (.agg #[.int .i64 0, .int .i64 0, .int .i64 0, .int .i64 0]) 4 32 Try.underlying37 hi hz0 hz1 hz2 rfl (by decide) _ _ _ rfl W ⟨jv, 0, none⟩ 1 1 [.int .i64 x0, .int .i64 x1, .int .i64 x2, .int .i64 x3] rfl rfl HF.out (four_one _ _ _ _) (by unfold maxLen; omega) (by omega) hsz ?_; intro v' wn hown' hgrow _; (have G := grown_belowK W hgrow hsz); clear n0 n1 n2 n3 o0 o1 o2 o3 o4 o5 o6; (replace c0 := (G.cell (p := ⟨b, off + k * 4, none⟩) hbj).trans c0); (replace c1 := (G.cell (p := ⟨b, off + k * 4 + 1, none⟩) hbj).trans c1); (replace c2 := (G.cell (p := ⟨b, off + k * 4 + 2, none⟩) hbj).trans c2); (replace c3 := (G.cell (p := ⟨b, off + k * 4 + 3, none⟩) hbj).trans c3); (replace N := N.belB G (by omega)); (replace O := O.belB G (by omega)); (replace Fx : Bf4T _ (bo + 1) fk := Bf4.bel Fx G (by omega)); (replace R := R.belB G (by omega)); (replace R2 := R2.bel G (by omega)); (replace CZ := CZ.below G (by omega)); (replace B := B.trans (G.mono (by omega))); rw [HW.out] at hown'; (obtain ⟨a', c', rfl, _, _, _⟩ := ownF_src hown'); clear hgrow HF; (obtain ⟨n0, n1, n2, n3⟩ := id N); (obtain ⟨o0, o1, o2, o3, o4, o5, o6⟩ := id O)
          refine hK.out _ _ ?_ (fun hHeld => ?_)
          · first | exact ⟨n3, c0, c1, c2, c3⟩ | (simp (maxDischargeDepth := 6) [go_sem, *]; done)
          clear hK K
          (try simp only [Act.put, List.setIfInBounds_toArray, List.set_cons_zero, List.set_cons_succ])
          refine wpAnyH_take (i := 9) (v := ?_) (by rw [List.getElem?_toArray]; rfl) (by kernel_rfl) (by kernel_rfl) (by kernel_rfl) (by intro _ _ _ h; exact h) (Or.inl ⟨by rfl, ?_⟩) (by assumption) ?_
          rotate_left
          · (intro w hSw; (try dsimp only at hSw); go_simp; all_goals with_reducible rfl)
          (try simp only [Act.put, List.setIfInBounds_toArray, List.set_cons_zero, List.set_cons_succ])
          refine wpAnyH_ready (rs := [10]) (by kernel_rfl) (by simp) ?_
          refine (AllReadyH.cons (by rw [List.getElem?_toArray]; rfl) (fun K hK => ?_) AllReadyH.nil)
          go_simp
          refine hK.out _ _ ?_ (fun hHeld => ?_)
          · first | exact ⟨n3, c0, c1, c2, c3⟩ | (simp (maxDischargeDepth := 6) [go_sem, *]; done)
          clear hK K
          (try simp only [Act.put, List.setIfInBounds_toArray, List.set_cons_zero, List.set_cons_succ])
          refine wpAnyH_done (by kernel_rfl) ?_ _
          go_wp2_with fail
          have PB := But.oneK wn bo 2 (.slice a' (q + 1) c')
          go_roundw
          case rel => exact ⟨k + 1, by omega, by go_num, by rw [HED.out], _, O.set2 _, (by rw [HEN.out]; exact own_butK hown' PB (by omega)), (by rw [HEF.out]; exact Bf4.but Fx PB (by omega)), N.but PB (by omega), R.but PB (by omega), R2.but PB (by omega), .inr ⟨rfl, CZ.but PB (by omega)⟩, B.trans (PB.below (by omega) B.size)⟩
          case measure => simp [vI]; omega
    · have hkn : k = n := by omega
      subst hkn
      have hli : decide ((k : Int) < (k : Int)) = false := decide_eq_false (by omega)
      have e1 : ctK i k = k - 1 := by unfold ctK; rw [if_neg (by omega)]
      have e2 : fdK M i k = kT z0 z1 z2 z3 := (if_neg (by omega)).trans hMi.out
      have e3 : cdK i k cd = 0 := (if_neg (by omega)).trans hc0.out
      rw [e1] at W
      rw [e2] at Fx
      rw [e3]
      replace Fx : Bf4 wr (bo + 1) z0 z1 z2 z3 := Fx
      obtain ⟨a', c', rfl, _, _, _⟩ := ownF_src W
      obtain ⟨⟨u0, u1, u2, u3, u4⟩, -, -, -, -⟩ := Fx
      have hd1 : ¬ bo = w.heap.size + 1 := by omega
      have hd2 : ¬ bo + 1 = w.heap.size + 1 := by omega
      have hd3 : ¬ bo = w.heap.size + 1 + 1 := by omega
      have hd4 : ¬ bo + 1 = w.heap.size + 1 + 1 := by omega
      have hd5 : ¬ bo = w.heap.size := by omega
      clear e1 e2 e3
      go_upto_region 17 with fail
      have P1 := put3_butK wr (w.heap.size + 1) (.int .i64 ep) (.int .i64 us) (.slice a' (k - 1) c')
      have RQ := R.set (.int .i64 ep) (.int .i64 us) (.slice a' (k - 1) c')
      have P2 := put4_but (((wr.setCell ⟨w.heap.size + 1, 0, none⟩ (.int .i64 ep)).setCell ⟨w.heap.size + 1, 1, none⟩ (.int .i64 us)).setCell ⟨w.heap.size + 1, 2, none⟩ (.slice a' (k - 1) c')) (w.heap.size + 1 + 1) z0 z1 z2 z3
      have RQ2 := (R2.but P1 (by omega)).set z0 z1 z2 z3
      replace RQ := RQ.but P2 (by omega)
      have BQ1 := B.trans (P1.below (B := w.heap.size) (by omega) B.size)
      have BQ := BQ1.trans (P2.below (B := w.heap.size) (by omega) BQ1.size)
      have OQ := ownK_le (base' := w.heap.size) (own_butK (own_butK W P1 (by omega)) P2 (by omega)) (by omega)
      have KZ : Hid (World.ownsRow _ _ _ _ _ _ _ ∧ Below _ _ _) := ⟨OQ, BQ⟩
      obtain ⟨r0, r1, r2, r3, r4, r5, r6⟩ := R
      obtain ⟨⟨f0, f1, f2, f3, f4⟩, f5, f6, f7, f8⟩ := R2
      clear P1 P2 BQ1 BQ OQ
      unfold put4 at RQ RQ2 KZ
      go_region
      clear n0 n1 n2 n3 o0 o1 o2 o3 o4 o5 o6 u0 u1 u2 u3 u4 r0 r1 r2 r3 r4 r5 r6 f0 f1 f2 f3 f4 f5 f6 f7 f8
      generalize (((((((wr.setCell ⟨w.heap.size + 1, 0, none⟩ (.int .i64 ep)).setCell ⟨w.heap.size + 1, 1, none⟩ (.int .i64 us)).setCell ⟨w.heap.size + 1, 2, none⟩ (.slice a' (k - 1) c')).setCell ⟨w.heap.size + 1 + 1, 0, none⟩ (.int .i64 z0)).setCell ⟨w.heap.size + 1 + 1, 1, none⟩ (.int .i64 z1)).setCell ⟨w.heap.size + 1 + 1, 2, none⟩ (.int .i64 z2)).setCell ⟨w.heap.size + 1 + 1, 3, none⟩ (.int .i64 z3)) = wq at *
      obtain ⟨q0, q1, q2, q3, -, -, -⟩ := RQ
      obtain ⟨⟨g0, g1, g2, g3, g4⟩, -, -, -, -⟩ := RQ2
      go_wp2_with fail
      exact bodyPost_ret (v := .tuple #[.agg #[.int .i64 ep, .int .i64 us, .slice a' (k - 1) c'], .agg #[.int .i64 z0, .int .i64 z1, .int .i64 z2, .int .i64 z3], .int .i64 0]) (by simp (maxDischargeDepth := 6) [results, Try.results16, go_sem, q1, q2, q3, g1, g2, g3, g4]) rfl ⟨_, _, rfl, World.ownsRow.drew KZ.out.1, Below.drew KZ.out.2⟩
end Go.Proofs.Ytgfhcilhibbooaa
namespace Go.Proofs.Ytgfhcilhibbooaa
open Go.RowKit
set_option linter.unusedVariables false
theorem MapK.clear {w : World} {b n : Nat} {F : Int → Option KT} (h : MapK w b n F) (ty : TypeId) :
    ∃ w', (Builtin.clear_ #[70] ty #[.map (some b)]).run Try.prog w = .ok (.tuple #[]) w' ∧ MapK w' b 0 (fun _ => none) ∧ w.grownBy w' (some b) := by
  obtain ⟨D, ⟨es, clock, hb, Ft, hs, hD⟩, h2⟩ := h
  refine ⟨{ w with heap := w.heap.setIfInBounds b (.map #[] clock) }, ?_, ⟨.map [], ⟨#[], clock, (MapKept.heap_set hb).1, ⟨by simp, MapKept.stamped_empty _, by simp⟩, Nat.zero_le _, rfl⟩, fun x => ⟨fun z => rfl, rfl⟩⟩, ⟨rfl, rfl, rfl, by simp, fun k hk hne => (MapKept.heap_set hb).2 k (fun e => hne (by rw [e]))⟩⟩
  simp [Builtin.clear_, run_underlying Try.underlying70, MapKept.run_getObj_map hb, MapKept.run_setObj_map _ hb, Result.andThen]
def rbB (ep us : Int) (M : Nat → KT) (n : Nat) (x : Int) : Bool := tabB ep us M n && decide (1 ≤ x ∧ x ≤ 100000) && decide (ep < x)
def rbE (ep us : Int) (M : Nat → KT) (n : Nat) (x : Int) : Int := bif rbB ep us M n x then x else 0
def rbC (ep us : Int) (M : Nat → KT) (n : Nat) (x : Int) : Int := bif rbB ep us M n x then 0 else 1
theorem rb_no {ep us : Int} {M : Nat → KT} {n : Nat} {x : Int} (h : rbB ep us M n x = false) : rbE ep us M n x = 0 ∧ rbC ep us M n x = 1 := by rw [rbE, rbC, h]; exact ⟨rfl, rfl⟩
theorem rb_yes {ep us : Int} {M : Nat → KT} {n : Nat} {x : Int} (h : rbB ep us M n x = true) : rbE ep us M n x = x ∧ rbC ep us M n x = 0 := by rw [rbE, rbC, h]; exact ⟨rfl, rfl⟩
theorem FA_none (A : Nat → KT) : FA (fun _ => none) A 0 := ⟨fun i j _ h => absurd h (Nat.not_lt_zero _), fun j h => absurd h (Nat.not_lt_zero _), fun _ _ => rfl⟩
end Go.Proofs.Ytgfhcilhibbooaa
namespace Go.Proofs.Ytgfhcilhibbooaa
open Go.RowKit
set_option linter.unusedVariables false
theorem ne_own {p q : Option Nat} (h : ∀ g, p = some g → q ≠ some g) : q = none ∨ q ≠ p := by
  cases q with
  | none => exact .inl rfl
  | some k => exact .inr fun e => h k e.symm rfl
theorem ne_own' {p q : Option Nat} (h : ∀ g, p = some g → q ≠ some g) (hp : p ≠ none) : p ≠ q := by
  cases p with
  | none => exact absurd rfl hp
  | some k => exact fun e => h k rfl e.symm
def RbIs (ep us : Int) (M : Nat → KT) (n : Nat) (x Xe Xu : Int) (mm : Nat) (G : Nat → KT) (C0 : Int) : Prop := Xe = rbE ep us M n x ∧ Xu = 0 ∧ mm = 0 ∧ C0 = rbC ep us M n x
theorem ansReboot (ep us : Int) (M : Nat → KT) (n : Nat) (x : Int) : ∃ Xe Xu mm G C0, RbIs ep us M n x Xe Xu mm G C0 ∧ mm ≤ 17 ∧ True := ⟨_, _, _, M, _, ⟨rfl, rfl, rfl, rfl⟩, by omega, trivial⟩
end Go.Proofs.Ytgfhcilhibbooaa
namespace Go.Proofs.Ytgfhcilhibbooaa
open Go.RowKit
set_option linter.unusedVariables false
theorem lst_succ (M : Nat → KT) (k : Nat) : lst M (k + 1) = lst M k ++ [M k] := by simp [lst, List.range_succ]
theorem rowL0 {L : List KT} (h : 0 < L.length) : rowL L 0 ∈ L := by
  cases L with
  | nil => simp at h
  | cons a t => simp [rowL]
theorem gon_at0 {x p : Int} {L : List KT} (h : 0 < (gon x p L).length) : ltB x p (rowL (gon x p L) 0) = true := (List.mem_filter.1 (rowL0 h)).2
theorem kep_at0 {x p : Int} {L : List KT} (h : 0 < (kep x p L).length) : ltB x p (rowL (kep x p L) 0) = false := (Bool.not_eq_true' _).mp (show (!ltB x p (rowL (kep x p L) 0)) = true from (List.mem_filter.1 (rowL0 h)).2)
theorem at_off {w : World} {base : Nat} {e : TypeId} {s n c : Nat} {a : Option Addr} {xs : List Value} (h : w.ownsRow base e s (.slice a n c) n xs) {b off : Nat} (ha : a = some ⟨b, off, none⟩) : off = 0 := by
  rcases h.2 with ⟨he, _⟩ | ⟨g', cap, cur, he, _⟩
  · simp at he; rw [he.1] at ha; cases ha
  · simp at he; rw [he.1] at ha; simp at ha; exact ha.2.symm
theorem own_cell2 {w : World} {base n c : Nat} {a : Option Addr} {G : Nat → KT} (h : w.ownsRow base 43 4 (.slice a n c) n (krow G n)) (hn : 0 < n) {g : Nat} (hg : (Value.slice a n c).ownBlock = some g) : w.cell? ⟨g, 2, none⟩ = some (.int .i64 (G 0).2.2.1) := by
  obtain ⟨a2, c2, e2, _, _, S⟩ := ownF_src h
  injection e2 with e2 e3 e4
  subst e2 e4
  rcases S with S | ⟨b, off, ha, hc⟩
  · omega
  · have h1 := own_at h ha
    rw [hg] at h1
    injection h1 with h1
    subst h1
    have h2 := at_off h ha
    subst h2
    have q := hc.2 2 (by omega)
    obtain ⟨x0, x1, x2, x3, hG⟩ := tupAsk G 0
    have v := (MFAsk_vals hG).2.2.1
    simp only [Nat.zero_mul, Nat.zero_add] at v q
    rw [q, v, hG]
theorem own_two {w : World} {b1 b2 n m c c' : Nat} {a a' : Option Addr} {G H : Nat → KT} (h1 : w.ownsRow b1 43 4 (.slice a n c) n (krow G n)) (h2 : w.ownsRow b2 43 4 (.slice a' m c') m (krow H m)) (hn : 0 < n) (hm : 0 < m) (hne : (G 0).2.2.1 ≠ (H 0).2.2.1) : ∀ g, (Value.slice a n c).ownBlock = some g → (Value.slice a' m c').ownBlock ≠ some g := by
  intro g e1 e2
  have q1 := own_cell2 h1 hn e1
  rw [own_cell2 h2 hm e2] at q1
  injection q1 with q1
  injection q1 with _ q1
  exact hne q1.symm
theorem lt_at {x p : Int} {K K' : KT} (h : ltB x p K = true) (h' : ltB x p K' = false) : K.2.2.1 ≠ K'.2.2.1 := by
  intro e
  unfold ltB at h h'
  rw [e, h'] at h
  cases h
theorem no_box {w : World} {base j n c : Nat} {a : Option Addr} {G : Nat → KT} {u0 u1 : Value} {a' : Option Addr} {n' c' : Nat} (h : w.ownsRow base 43 4 (.slice a n c) n (krow G n)) (hn : 0 < n) (hb : Bx3 w j u0 u1 (.slice a' n' c')) : ∀ g, (Value.slice a n c).ownBlock = some g → g ≠ j := by
  intro g hg e
  subst e
  have q := own_cell2 h hn hg
  rw [hb.2.2.2.1] at q
  cases q
def ExInv (ep us x p : Int) (M : Nat → KT) (w : World) (ad : Addr) (n c bo k : Nat) (vg : Value) (wr : World) : Prop := ∃ ag cg ao co, vg = .slice ag (gon x p (lst M k)).length cg ∧ Bx3 wr bo (.int .i64 ep) (.int .i64 us) (.slice ao (kep x p (lst M k)).length co) ∧ wr.ownsRow (bo + 1) 43 4 (.slice ao (kep x p (lst M k)).length co) (kep x p (lst M k)).length (krow (rowL (kep x p (lst M k))) (kep x p (lst M k)).length) ∧ ((kep x p (lst M k)).length = 0 → ao = none) ∧ wr.ownsRow (w.heap.size + 2) 43 4 (.slice ag (gon x p (lst M k)).length cg) (gon x p (lst M k)).length (krow (rowL (gon x p (lst M k))) (gon x p (lst M k)).length) ∧ ((gon x p (lst M k)).length = 0 → ag = some ⟨w.heap.size + 2, 0, none⟩) ∧ (∀ g, (Value.slice ag (gon x p (lst M k)).length cg).ownBlock = some g → g ≠ bo) ∧ (∀ g, (Value.slice ag (gon x p (lst M k)).length cg).ownBlock = some g → (Value.slice ao (kep x p (lst M k)).length co).ownBlock ≠ some g) ∧ IB3 wr w.heap.size ep us (some ad) n c ∧ Bx3 wr (w.heap.size + 1) (.int .i64 0) (.int .i64 0) (.slice none 0 0) ∧ Froms wr ad M n ∧ Below w.heap.size w wr
theorem Froms.keptK {w w' : World} {ad : Addr} {M : Nat → KT} {n : Nat} {o : Option Nat} (h : Froms w ad M n) (hg : w.grownBy w' o) (hne : some ad.block ≠ o) : Froms w' ad M n := by
  rcases h with h | ⟨hs, h⟩
  · exact .inl h
  · exact .inr ⟨hs, h.kept hg hne⟩
end Go.Proofs.Ytgfhcilhibbooaa
namespace Go.Proofs.Ytgfhcilhibbooaa
open Go.RowKit
set_option linter.unusedVariables false
theorem pickLit (B p : Nat) (w : World) (L : List Int) (hcur : CurOk w B p) (h0 : 0 < L.length) (h1 : L.length ≤ 100) :
    Calls Try.prog 48 #[.pointer (some ⟨p, 0, none⟩), .slice (some ⟨w.heap.size, 0, none⟩) L.length L.length] (w.alloc (.cells (L.map (Value.int .i64)).toArray 3)) fun e w' => ∃ v : Int, e = .returned (.int .i64 v) ∧ CurOk w' B p ∧ But p w w' := by
  have hb : Below w.heap.size w (w.alloc (.cells (L.map (Value.int .i64)).toArray 3)) := (Below.refl _ _).alloc (Nat.le_refl _) _
  have hl := hcur.lt
  refine (l1PickInt_any B p w.heap.size 0 L.length L.length _ (hcur.below hb) h0 h1 (by simp) (by omega) (fun j hj => ⟨L[j], by simp [hj]⟩)).mono ?_
  rintro e w' ⟨j, v, hj, _, rfl, hc, hw⟩
  exact ⟨v, rfl, hc, (But.of_below hb).trans hw⟩
def imnD (x y : Int) : Int := if x < y then x else y
theorem CurOk.setOther {w : World} {B p : Nat} (h : CurOk w B p) {k : Nat} (hk : k ≠ p) (hB : B ≤ k) (o : Nat) (u : Value) : CurOk (w.setCell ⟨k, o, none⟩ u) B p := by
  obtain ⟨a, n, c, i, hh, h0, h1, h2, f0, f1, f2, hi, hn, hc, hBp, hp⟩ := h
  have hne : ∀ q, (⟨k, o, none⟩ : Addr) ≠ ⟨p, q, none⟩ := fun q e => hk (congrArg Addr.block e)
  refine ⟨a, n, c, i, hh, ?_, ?_, ?_, by simpa using f0, by simpa using f1, by simpa using f2, hi, hn, hc.below ((Below.refl _ _).setCell hB _), hBp, by simpa using hp⟩
  · rw [World.cell?_setCell_other _ _ _ _ (hne _)]; exact h0
  · rw [World.cell?_setCell_other _ _ _ _ (hne _)]; exact h1
  · rw [World.cell?_setCell_other _ _ _ _ (hne _)]; exact h2
theorem But.setNew {p : Nat} {a w : World} (h : But p a w) {k : Nat} (hk : a.heap.size ≤ k) (o : Nat) (u : Value) : But p a (w.setCell ⟨k, o, none⟩ u) :=
  ⟨h.1, h.2.1, h.2.2.1, by rw [World.size_setCell]; exact h.2.2.2.1, fun j hj hp => (Below.heap_setCell w ⟨k, o, none⟩ u j (by simp; omega)).trans (h.2.2.2.2 j hj hp)⟩
theorem But.alloc {p : Nat} {a w : World} (h : But p a w) (o : Obj) : But p a (w.alloc o) :=
  h.trans (But.of_below ((Below.refl _ _).alloc (Nat.le_refl _) _))
end Go.Proofs.Ytgfhcilhibbooaa
namespace Go.Proofs.Ytgfhcilhibbooaa
open Go.RowKit
set_option linter.unusedVariables false
theorem curNew (w : World) (a : Option Addr) (n c : Nat) (h : Int) (T : TypeId) (hn : n ≤ 1048576) (hcode : CodeB w w.heap.size a n) : CurOk (w.alloc (.cells #[.slice a n c, .int .i64 0, .int .i64 h] T)) w.heap.size w.heap.size :=
  ⟨a, n, c, 0, h, by simp, by simp, by simp, by simp, by simp, by simp, Nat.zero_le _, hn, hcode.below ((Below.refl _ _).alloc (Nat.le_refl _) _), Nat.le_refl _, by simp⟩
set_option maxHeartbeats 1000000 in
theorem l1New_any (a : Option Addr) (n c : Nat) (w : World) (hn : n ≤ 1048576) (hcode : CodeB w w.heap.size a n) :
    Calls Try.prog 31 #[.slice a n c] w fun e w' => ∃ p, e = .returned (.pointer (some ⟨p, 0, none⟩)) ∧ CurOk w' w.heap.size p ∧ Below w.heap.size w w' := by
  have HC : Hid (CodeB w w.heap.size a n) := hcode
  clear hcode
  go_enter Try.func31, Try.ntmps31
  go_wp2_with fail
  go_loop [3, 4] (fun hv i => ∃ k : Nat, ∃ h : Int, k ≤ n ∧ i = .int .i64 k ∧ hv = .int .i64 h) (fun _ i => n - (intOf i).toNat)
  case atStart => exact ⟨0, _, Nat.zero_le _, rfl, rfl⟩
  case round =>
    obtain ⟨k, h, hk, rfl, rfl⟩ := hrel
    by_cases hlt : k < n
    · have hli : (k : Int) < (n : Int) := by omega
      by_cases h4 : (k : Int) < 4000
      · rcases HC.out with h0 | ⟨b, off, rfl, hb, hz⟩
        · omega
        · obtain ⟨z, hz, z0, z1⟩ := hz k hlt
          go_wp2_with fail
          go_round
          case rel => exact ⟨k + 1, _, by omega, by go_num, rfl⟩
          case measure => simp [intOf]; omega
      · have hd : decide ((k : Int) < 4000) = false := by simp; omega
        go_wp2_with fail
        go_ret
        exact ⟨_, rfl, curNew _ _ _ _ _ _ hn HC.out, (Below.refl _ _).alloc (Nat.le_refl _) _⟩
    · have hd : decide ((k : Int) < (n : Int)) = false := by simp; omega
      go_wp2_with fail
      go_ret
      exact ⟨_, rfl, curNew _ _ _ _ _ _ hn HC.out, (Below.refl _ _).alloc (Nat.le_refl _) _⟩
end Go.Proofs.Ytgfhcilhibbooaa
namespace Go.Proofs.Ytgfhcilhibbooaa
open Go.RowKit
set_option linter.unusedVariables false
theorem CurOk.drew {w : World} {B p : Nat} (h : CurOk w B p) : CurOk w.drew B p := h
theorem But.drew {p : Nat} {a w : World} (h : But p a w) : But p a w.drew := h
def Box (w : World) (k : Nat) (x y : Int) : Prop := k < w.heap.size ∧ w.cell? ⟨k, 0, none⟩ = some (.int .i64 x) ∧ w.cell? ⟨k, 1, none⟩ = some (.int .i64 y) ∧ w.frozen? ⟨k, 0, none⟩ = false ∧ w.frozen? ⟨k, 1, none⟩ = false
theorem Box.but {p k : Nat} {w w' : World} {x y : Int} (h : Box w k x y) (hw : But p w w') (hk : k ≠ p) : Box w' k x y :=
  ⟨Nat.lt_of_lt_of_le h.1 hw.2.2.2.1, by rw [hw.cell h.1 hk]; exact h.2.1, by rw [hw.cell h.1 hk]; exact h.2.2.1, by rw [hw.frozen h.1 hk]; exact h.2.2.2.1, by rw [hw.frozen h.1 hk]; exact h.2.2.2.2⟩
theorem Box.below {k : Nat} {w w' : World} {x y : Int} (h : Box w k x y) (hw : Below w.heap.size w w') : Box w' k x y :=
  ⟨Nat.lt_of_lt_of_le h.1 hw.size, by rw [hw.cell (p := ⟨k, 0, none⟩) h.1]; exact h.2.1, by rw [hw.cell (p := ⟨k, 1, none⟩) h.1]; exact h.2.2.1, by rw [hw.frozen (p := ⟨k, 0, none⟩) h.1]; exact h.2.2.2.1, by rw [hw.frozen (p := ⟨k, 1, none⟩) h.1]; exact h.2.2.2.2⟩
theorem Box.alloc {k : Nat} {w : World} {x y : Int} (h : Box w k x y) (o : Obj) : Box (w.alloc o) k x y := h.below ((Below.refl _ _).alloc (Nat.le_refl _) _)
theorem Box.setOther {k j : Nat} {w : World} {x y : Int} (h : Box w k x y) (hk : j ≠ k) (o : Nat) (u : Value) : Box (w.setCell ⟨j, o, none⟩ u) k x y := by
  have hne : ∀ q, (⟨j, o, none⟩ : Addr) ≠ ⟨k, q, none⟩ := fun q e => hk (congrArg Addr.block e)
  exact ⟨by simpa using h.1, by rw [World.cell?_setCell_other _ _ _ _ (hne _)]; exact h.2.1, by rw [World.cell?_setCell_other _ _ _ _ (hne _)]; exact h.2.2.1, by simpa using h.2.2.2.1, by simpa using h.2.2.2.2⟩
theorem Box.set {k : Nat} {w : World} {x y : Int} (h : Box w k x y) (x' y' : Int) : Box ((w.setCell ⟨k, 0, none⟩ (.int .i64 x')).setCell ⟨k, 1, none⟩ (.int .i64 y')) k x' y' := by
  refine ⟨by simpa using h.1, ?_, ?_, by simpa using h.2.2.2.1, by simpa using h.2.2.2.2⟩
  · rw [World.cell?_setCell_other _ _ _ _ (by simp), World.cell?_setCell_same _ _ _ h.2.1]
  · exact World.cell?_setCell_same _ _ _ (by rw [World.cell?_setCell_other _ _ _ _ (by simp)]; exact h.2.2.1)
theorem Box.new (w : World) (x y : Int) (T : TypeId) : Box (w.alloc (.cells #[.int .i64 x, .int .i64 y] T)) w.heap.size x y := ⟨by simp, by simp, by simp, by simp, by simp⟩
theorem CodeB.more {w : World} {B B' : Nat} {a : Option Addr} {n : Nat} (h : CodeB w B a n) (hB : B ≤ B') : CodeB w B' a n := by
  rcases h with h | ⟨b, off, h1, h2, h3⟩
  · exact .inl h
  · exact .inr ⟨b, off, h1, by omega, h3⟩
/- What a new world holds after an alloc or a store, for go_wp2's simp. -/
theorem Below.al (w : World) (o : Obj) : Below w.heap.size w (w.alloc o) := (Below.refl _ _).alloc (Nat.le_refl _) _
end Go.Proofs.Ytgfhcilhibbooaa
