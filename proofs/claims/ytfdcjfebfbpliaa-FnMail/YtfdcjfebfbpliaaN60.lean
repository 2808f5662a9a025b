/- Rows of numbers; contracts of NetFor. -/
import Derived.Test.YtfdcjfebfbpliaaN59
import Derived.Deep.RegionHeld3
import Derived.Deep.DeepCutAuto
import Derived.WalkKit
import Derived.WalkSpells
import Derived.WalkLawsBesides
import Derived.Deep.RegionHeld
namespace Go.Proofs.Ytfdcjfebfbpliaa
open Go.RowKit
set_option linter.unusedVariables false
def itL (L : List Int) : List Value := L.map (Value.int .i64)
def itF (L : List Int) (j : Nat) : Value := .int .i64 (L.getD j 0)
def mkI (j : Nat) : Value := .int .i64 (1 + (j : Int))
theorem itL_len (L : List Int) : (itL L).length = L.length := by simp [itL]
theorem ownI_src {w : World} {base : Nat} {v : Value} {L : List Int} (h : w.ownsRow base 3 1 v L.length (itL L)) : ∃ a c, v = .slice a L.length c ∧ L.length ≤ c ∧ c ≤ maxLen ∧ SrcC w a L.length (itF L) := by
  rcases h.2 with ⟨rfl, h0⟩ | ⟨g, cap, cur, rfl, hb, hg, hc, hm, hs, ht⟩
  · exact ⟨none, 0, by rw [h0], by omega, by simp [maxLen], .inl h0⟩
  · refine ⟨_, cap, rfl, hc, hm, .inr ⟨g, 0, rfl, (Array.getElem?_eq_some_iff.1 hg).1, fun i hi => ?_⟩⟩
    have hu : (itL L)[i]? = some (itF L i) := by simp [itL, itF, hi]
    rw [← ht, List.getElem?_take, if_pos (by omega)] at hu
    simp [World.cell?, hg]
    simpa using hu
theorem itL_add (L : List Int) (z : Int) : itL (L ++ [z]) = itL L ++ [.int .i64 z] := by simp [itL]
theorem int_at (w : World) (z : Int) (T : TypeId) (j : Nat) (u : Value) (h : [Value.int .i64 z][j]? = some u) : (w.alloc (.cells #[.int .i64 z] T)).cell? ((⟨w.heap.size, 0, none⟩ : Addr).add j) = some u := by
  match j, h with
  | 0, h => simp at h; subst h; simp [Addr.add]
theorem ownI_nil (w : World) (base : Nat) : w.ownsRow base 3 1 (.slice none 0 0) ([] : List Int).length (itL []) := World.ownsRow_nil w base _ _
theorem ownI_new (w : World) (base : Nat) (hb : base ≤ w.heap.size) : (w.alloc (.cells #[] 3)).ownsRow base 3 1 (.slice (some ⟨w.heap.size, 0, none⟩) 0 0) ([] : List Int).length (itL []) := World.ownsRow_made w #[] 0 hb (by simp [maxLen]) (by simp)
theorem NB.belowB {w w' : World} {B j : Nat} {nx : Int} {a : Option Addr} {n c : Nat} (h : NB w j nx a n c) (hb : Below B w w') (hj : j < B) : NB w' j nx a n c :=
  ⟨Nat.lt_of_lt_of_le h.1 hb.size, by rw [hb.cell (p := ⟨j, 0, none⟩) hj]; exact h.2.1, by rw [hb.cell (p := ⟨j, 1, none⟩) hj]; exact h.2.2⟩
theorem ownB_le {w : World} {base base' : Nat} {e : TypeId} {size : Nat} {v : Value} {n : Nat} {xs : List Value} (h : w.ownsRow base e size v n xs) (hb : base' ≤ base) : w.ownsRow base' e size v n xs := by
  refine ⟨h.1, ?_⟩
  rcases h.2 with h | ⟨g, cap, cur, h1, h2, h3⟩
  · exact .inl h
  · exact .inr ⟨g, cap, cur, h1, by omega, h3⟩
def tuF (M : FT) : Int := M.2.2.1
def forL (M : Nat → FT) (tu : Int) : Nat → List Int
  | 0 => []
  | k + 1 => if tuF (M k) = tu then forL M tu k ++ [(k : Int)] else forL M tu k
theorem forL_len (M : Nat → FT) (tu : Int) : ∀ k, (forL M tu k).length ≤ k
  | 0 => by simp [forL]
  | k + 1 => by
    have := forL_len M tu k
    rw [forL]
    split
    · simp; omega
    · omega
def forR (nx : Int) (M : Nat → FT) (n : Nat) (tu : Int) : List Int := if netB nx M n = true then forL M tu n else []
theorem forR_no {nx : Int} {M : Nat → FT} {n : Nat} {tu : Int} (h : netB nx M n = false) : forR nx M n tu = [] := by rw [forR, h]; rfl
theorem forR_ok {nx : Int} {M : Nat → FT} {n : Nat} {tu : Int} (h : netB nx M n = true) : forR nx M n tu = forL M tu n := by rw [forR, if_pos h]
theorem forR_len (nx : Int) (M : Nat → FT) (n : Nat) (tu : Int) : (forR nx M n tu).length ≤ 40 := by
  cases h : netB nx M n
  · rw [forR_no h]; simp
  · rw [forR_ok h]
    have := forL_len M tu n
    have := netB_40 h
    omega
set_option maxHeartbeats 4000000 in
theorem implNetFor_some (nx : Int) (b off n c : Nat) (M : Nat → FT) (tu : Int) (w : World) (hm : n ≤ maxLen) (hf : Cs w b off (n * 5) (MFFlight M)) (hs : ∀ i, i < n → ((M i).2.2.2.1).size ≤ maxLen) (hw : ∀ i, i < n → (Lit.int .i64 (M i).1).wf = true) :
    Calls Try.prog 18 #[.agg #[.int .i64 nx, .slice (some ⟨b, off, none⟩) n c], .int .i64 tu] w fun e w' => ∃ v : Value, e = .returned v ∧ w'.ownsRow w.heap.size 3 1 v (forR nx M n tu).length (itL (forR nx M n tu)) ∧ Below w.heap.size w w' := by
  obtain ⟨i0, hi, hz0, hz1, hz2⟩ := info_parts infoI
  have HF : Hid (Cs w b off (n * 5) (MFFlight M)) := hf
  have bw := hf.1
  have N := NB.new w nx (some ⟨b, off, none⟩) n c 26
  have B := Below.nw w (.cells #[.int .i64 nx, .slice (some ⟨b, off, none⟩) n c] 26)
  have C := implNetOk_any nx (some ⟨b, off, none⟩) n c M _ hm (.inr ⟨b, off, rfl, hf.below B bw⟩) hs hw
  clear hf hs hw
  cases hB : netB nx M n
  · have HR : Hid (forR nx M n tu = []) := forR_no hB
    rw [hB] at C
    go_enter Try.func18, Try.ntmps18
    go_wp2_with fail
    refine C.mono ?_
    rintro e w1 ⟨rfl, hb⟩
    go_wp2_with fail
    go_ret
    exact ⟨_, rfl, by rw [HR.out]; exact ownI_nil w1 _, B.trans (hb.mono B.size)⟩
  · have HR : Hid (forR nx M n tu = forL M tu n) := forR_ok hB
    have hn := netB_40 hB
    rw [hB] at C
    clear hB
    go_enter Try.func18, Try.ntmps18
    go_wp2_with fail
    refine C.mono ?_
    rintro e w1 ⟨rfl, hb⟩
    replace N := N.below hb
    replace B := B.trans (hb.mono B.size)
    clear hb C
    have O := ownI_nil w1 (w.heap.size + 1)
    obtain ⟨n0, n1, n2⟩ := id N
    go_wp2_with fail
    go_loopw [5, 15] (fun v i wr => ∃ k : Nat, k ≤ n ∧ i = .int .i64 k ∧ wr.ownsRow (w.heap.size + 1) 3 1 v (forL M tu k).length (itL (forL M tu k)) ∧ NB wr w.heap.size nx (some ⟨b, off, none⟩) n c ∧ Below w.heap.size w wr) (fun _ i _ => n - (intOf i).toNat)
    case atStart => exact ⟨0, Nat.zero_le _, rfl, O, N, B⟩
    case round =>
      obtain ⟨k, hk, rfl, O', N', B'⟩ := hrel
      clear N B O n0 n1 n2
      have O := O'
      have N := N'
      have B := B'
      clear O' N' B'
      obtain ⟨n0, n1, n2⟩ := id N
      have hfl := forL_len M tu k
      by_cases hlt : k < n
      · obtain ⟨x0, x1, x2, x3, x4, hM⟩ := tupFlight M k
        have HT : Hid (tuF (M k) = x2) := by rw [hM]; rfl
        have hli : (k : Int) < (n : Int) := by omega
        obtain ⟨c0, c1, c2, c3, c4⟩ := (HF.out.below B bw).elFlight hlt hM
        have A1 := Below.nw wr (.cells #[.int .i64 x0, .int .i64 x1, .int .i64 x2, .string x3, .int .i64 x4] 30)
        have FB := Box5.new wr x0 x1 x2 x3 x4 30
        replace O := ownB_below O A1
        replace N := N.below A1
        replace B := B.trans (A1.mono B.size)
        clear hM
        go_upto_region 7 with fail
        clear c0 c1 c2 c3 c4 n0 n1 n2
        generalize hbf : wr.heap.size = bf at *
        generalize wr.alloc (.cells #[.int .i64 x0, .int .i64 x1, .int .i64 x2, .string x3, .int .i64 x4] 30) = wv at *
        clear A1 hbf
        obtain ⟨f9, f0, f1, f2, f3, f4⟩ := FB
        by_cases htu : x2 = tu
        · have HL : Hid (forL M tu (k + 1) = forL M tu k ++ [(k : Int)]) := by rw [Hid, forL, if_pos (HT.out.trans htu)]
          have htb : (x2 == tu) = true := by simp; exact htu
          have hsz : w.heap.size + 1 ≤ (wv.alloc (.cells #[.int .i64 (k : Int)] 3)).heap.size := by have := N.1; simp; omega
          have A5 := Below.nw wv (.cells #[.int .i64 (k : Int)] 3)
          generalize forL M tu k = FL at *
          go_wp2_with (at_builtin; refine wpList_append_own _ rfl _ _ 38 rfl (w.heap.size + 1) 3 i0 (.int .i64 0) 1 8 Try.underlying38 hi hz0 hz1 hz2 rfl (by decide) _ _ _ rfl (World.ownsRow.alloc O _) ⟨wv.heap.size, 0, none⟩ 1 1 [.int .i64 (k : Int)] rfl rfl (fun j u hj => int_at wv _ 3 j u hj) (by intro u hu; simp at hu; subst hu; rfl) (by unfold maxLen; omega) (by omega) hsz ?_; intro v' wn hown' hgrow _)
          have G := grownB_below (World.ownsRow.alloc O _) hgrow hsz
          have N5 := (N.below A5).belowB G (Nat.lt_succ_self _)
          have B5 := (B.trans (A5.mono B.size)).trans (G.mono (Nat.le_succ _))
          have O5 : wn.ownsRow (w.heap.size + 1) 3 1 v' (forL M tu (k + 1)).length (itL (forL M tu (k + 1))) := by rw [HL.out, itL_add, List.length_append]; exact hown'
          (try go_wp2_with fail)
          go_roundw
          case rel => exact ⟨k + 1, by omega, by go_num, O5, N5, B5⟩
          case measure => simp [intOf]; omega
        · have HL : Hid (forL M tu (k + 1) = forL M tu k) := by rw [Hid, forL, if_neg (fun q => htu (HT.out.symm.trans q))]
          have htb : (x2 == tu) = false := by simp; exact htu
          go_wp2_with fail
          go_roundw
          case rel => exact ⟨k + 1, by omega, by go_num, by rw [HL.out]; exact O, N, B⟩
          case measure => simp [intOf]; omega
      · have hkn : k = n := by omega
        subst hkn
        have hli : ¬ (k : Int) < (k : Int) := by omega
        go_wp2_with fail
        go_ret
        exact ⟨_, rfl, by rw [HR.out]; exact ownB_le O (Nat.le_succ _), B⟩
set_option maxHeartbeats 2000000 in
theorem implNetFor_zero (nx : Int) (a : Option Addr) (c : Nat) (M : Nat → FT) (tu : Int) (w : World) :
    Calls Try.prog 18 #[.agg #[.int .i64 nx, .slice a 0 c], .int .i64 tu] w fun e w' => ∃ v : Value, e = .returned v ∧ w'.ownsRow w.heap.size 3 1 v (forR nx M 0 tu).length (itL (forR nx M 0 tu)) ∧ Below w.heap.size w w' := by
  have HR : Hid (forR nx M 0 tu = []) := by
    cases h : netB nx M 0
    · exact forR_no h
    · exact forR_ok h
  have N := NB.new w nx a 0 c 26
  have B := Below.nw w (.cells #[.int .i64 nx, .slice a 0 c] 26)
  have C := implNetOk_any nx a 0 c M (w.alloc (.cells #[.int .i64 nx, .slice a 0 c] 26)) (by simp [maxLen]) (.inl rfl) (fun i hi => absurd hi (Nat.not_lt_zero _)) (fun i hi => absurd hi (Nat.not_lt_zero _))
  cases hB : netB nx M 0
  · rw [hB] at C
    go_enter Try.func18, Try.ntmps18
    go_wp2_with fail
    refine C.mono ?_
    rintro e w1 ⟨rfl, hb⟩
    go_wp2_with fail
    go_ret
    exact ⟨_, rfl, by rw [HR.out]; exact ownI_nil w1 _, B.trans (hb.mono B.size)⟩
  · rw [hB] at C
    go_enter Try.func18, Try.ntmps18
    go_wp2_with fail
    refine C.mono ?_
    rintro e w1 ⟨rfl, hb⟩
    replace N := N.below hb
    replace B := B.trans (hb.mono B.size)
    clear hb C
    obtain ⟨n0, n1, n2⟩ := id N
    go_wp2_with fail
    go_loopw [5, 15] (fun v i wr => i = .int .i64 0 ∧ v = .slice none 0 0 ∧ w1 = wr) (fun _ i _ => 0)
    case atStart => exact ⟨rfl, rfl, by first | rfl | trivial⟩
    case round =>
      obtain ⟨rfl, rfl, rfl⟩ := hrel
      go_wp2_with fail
      go_ret
      exact ⟨_, rfl, by rw [HR.out]; exact ownI_nil w1 _, B⟩
theorem implNetFor_any (nx : Int) (a : Option Addr) (n c : Nat) (M : Nat → FT) (tu : Int) (w : World) (hm : n ≤ maxLen) (hf : SrcC w a (n * 5) (MFFlight M)) (hs : ∀ i, i < n → ((M i).2.2.2.1).size ≤ maxLen) (hw : ∀ i, i < n → (Lit.int .i64 (M i).1).wf = true) :
    Calls Try.prog 18 #[.agg #[.int .i64 nx, .slice a n c], .int .i64 tu] w fun e w' => ∃ v : Value, e = .returned v ∧ w'.ownsRow w.heap.size 3 1 v (forR nx M n tu).length (itL (forR nx M n tu)) ∧ Below w.heap.size w w' := by
  rcases hf with h0 | ⟨b, off, rfl, hf⟩
  · have hn0 : n = 0 := by omega
    subst hn0
    exact implNetFor_zero nx a c M tu w
  · exact implNetFor_some nx b off n c M tu w hm hf hs hw
end Go.Proofs.Ytfdcjfebfbpliaa
