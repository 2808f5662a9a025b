/- What the draw of a list out of the bytes of a draw leaves, and how its pairs are read. -/
import Derived.Test.YtogapogkdgaobaaL1
import Derived.Test.YtogapogkdgaobaaS8
import Derived.WalkKit
import Derived.WalkSpells
import Derived.WalkLawsBesides
import Derived.Deep.QuietTactic
import Derived.BigQuiet
namespace Go.Proofs.Ytogapogkdgaobaa
open Go.RowKit
set_option linter.unusedVariables false
theorem own_base {w : World} {base base' : Nat} {e : TypeId} {size : Nat} {v : Value} {n : Nat} {xs : List Value} (h : w.ownsRow base e size v n xs) (hb : base' ≤ base) : w.ownsRow base' e size v n xs := by
  refine ⟨h.1, ?_⟩
  rcases h.2 with h | ⟨g, cap, cur, h1, h2, h3⟩
  · exact .inl h
  · exact .inr ⟨g, cap, cur, h1, by omega, h3⟩
theorem prs_at (L : List (Int × Int)) (i : Nat) (hi : i < L.length) : (prs L)[i * 2]? = some (.int .i64 (L.getD i (0, 0)).1) ∧ (prs L)[i * 2 + 1]? = some (.int .i64 (L.getD i (0, 0)).2) := by
  induction L generalizing i with
  | nil => simp at hi
  | cons p L ih =>
    cases i with
    | zero => simp [prs]
    | succ i =>
      have := ih i (by simpa using hi)
      have e : prs (p :: L) = .int .i64 p.1 :: .int .i64 p.2 :: prs L := by simp [prs]
      rw [e, show (i + 1) * 2 = i * 2 + 1 + 1 by omega]
      simpa using this
theorem own_src {w : World} {base : Nat} {v : Value} {L : List (Int × Int)} (h : w.ownsRow base 25 2 v L.length (prs L)) :
    ∃ a c, v = .slice a L.length c ∧ L.length ≤ c ∧ c ≤ maxLen ∧ Src w a L.length (fun i => L.getD i (0, 0)) := by
  rcases h.2 with ⟨rfl, h0⟩ | ⟨g, cap, cur, rfl, hb, hg, hc, hm, hs, ht⟩
  · exact ⟨none, 0, by rw [h0], by omega, by simp [maxLen], .inl h0⟩
  · refine ⟨_, cap, rfl, hc, hm, .inr ⟨g, 0, rfl, (Array.getElem?_eq_some_iff.1 hg).1, fun i hi => ?_⟩⟩
    have ⟨h1, h2⟩ := prs_at L i hi
    have hcell : ∀ j u, j < L.length * 2 → (prs L)[j]? = some u → w.cell? ⟨g, j, none⟩ = some u := by
      intro j u hj hu
      rw [← ht, List.getElem?_take, if_pos hj] at hu
      simp [World.cell?, hg] 
      simpa using hu
    exact ⟨by simpa using hcell (i * 2) _ (by omega) h1, by simpa using hcell (i * 2 + 1) _ (by omega) h2⟩
set_option maxHeartbeats 400000 in
theorem l1Size_any (a : Option Addr) (n c : Nat) (w : World) (hn : n ≤ 1048576) :
    Calls Try.prog 74 #[.slice a n c, .int .i64 20] w fun e w' => ∃ x : Int, e = .returned (.int .i64 x) ∧ 0 ≤ x ∧ x ≤ 20 ∧ w = w' := by
  have hq : (n : Int).tdiv 20 = (n : Int) / 20 := Int.tdiv_eq_ediv_of_nonneg (by omega)
  go_enter Try.func74, Try.ntmps74
  go_wp2
  all_goals go_ret
  all_goals exact ⟨_, rfl, by omega, by omega, rfl⟩
set_option maxHeartbeats 4000000 in
theorem l1DrawList_any (a : Option Addr) (n c : Nat) (w : World) (hn : n ≤ 1048576) (hcode : CodeB w w.heap.size a n) :
    Calls Try.prog 48 #[.slice a n c] w fun e w' => ∃ v : Value, ∃ L : List (Int × Int), e = .returned v ∧ w'.ownsRow w.heap.size 25 2 v L.length (prs L) ∧ L.length ≤ 100 ∧ Below w.heap.size w w' := by
  obtain ⟨i0, hi, hz0, hz1, hz2⟩ := info_parts infoIval
  have HC : Hid (CodeB w w.heap.size a n) := hcode
  clear hcode
  go_enter Try.func48, Try.ntmps48
  go_wp2_with fail
  refine (l1New_any a n c _ hn HC.out).mono ?_
  rintro e w1 ⟨p, rfl, w1c, w1b⟩
  have q1 := w1c.lt
  go_wp2_with fail
  refine (l1Once_any _ p _ _ w1c).mono ?_
  rintro e w2 ⟨o, rfl, w2c, w2b⟩
  have b2 : Below w.heap.size w w2 := w1b.trans (w2b.below (by omega) w1b.size)
  have q2 := w2c.lt
  clear w1c w1b w2b
  cases o
  · go_wp2_with fail
    refine (l1Size_any _ _ _ _ hn).mono ?_
    rintro e w' ⟨x, rfl, x0, x1, rfl⟩
    go_wp2_with fail
    refine (l1DrawIvals_any _ p _ _ w2c x0 (by omega)).mono ?_
    rintro e w3 ⟨v, L, rfl, o3, hL, w3c, w3b⟩
    have b3 : Below w.heap.size w w3 := b2.trans (w3b.below (by omega) b2.size)
    go_wp2_with fail
    go_ret
    exact ⟨v, L, rfl, own_base o3 b2.size, hL, b3⟩
  · have b2' : Below w.heap.size w (w2.alloc (.cells #[] 25)) := b2.alloc b2.size _
    have hown0 : (w2.alloc (.cells #[] 25)).ownsRow w2.heap.size 25 2 (.slice (some ⟨w2.heap.size, 0, none⟩) 0 0) 0 [] := World.ownsRow_made w2 #[] 0 (Nat.le_refl _) (by simp [maxLen]) (by simp)
    have w2c' : CurOk (w2.alloc (.cells #[] 25)) w.heap.size p := w2c.below (Below.al _ _)
    have hs2 : w2.heap.size ≤ (w2.alloc (.cells #[] 25)).heap.size := by simp
    clear w2c
    go_wp2_with fail
    go_loopw [4, 5] (fun v i wr => ∃ L : List (Int × Int), L.length ≤ 66 ∧ i = .int .i64 L.length ∧ wr.ownsRow w2.heap.size 25 2 v L.length (prs L) ∧ CurOk wr w.heap.size p ∧ Below w.heap.size w wr ∧ w2.heap.size ≤ wr.heap.size) (fun _ i _ => 66 - (intOf i).toNat)
    case atStart => exact ⟨[], by simp, rfl, hown0, w2c', b2', hs2⟩
    case round =>
      obtain ⟨L, hk, rfl, hown, wrc, wrb, hsr⟩ := hrel
      clear hown0 w2c' b2' hs2
      go_wp2_with fail
      refine (l1Below_any _ p _ _ wrc).mono ?_
      rintro e w3 ⟨x, rfl, xl, xh, xp, xz, w3c, w3b⟩
      have hx := xp (by omega)
      have o3 := own_but hown w3b (by omega)
      have b3 : Below w.heap.size w w3 := wrb.trans (w3b.below (by omega) wrb.size)
      have hs3 : w2.heap.size ≤ w3.heap.size := Nat.le_trans hsr w3b.2.2.2.1
      clear xp xz hown wrc wrb hsr w3b
      by_cases hlt : (L.length : Int) < 64 + x
      · go_wp2_with (at_builtin; refine wpList_append_own _ rfl _ _ 39 rfl w2.heap.size 25 i0 (.agg #[.int .i64 0, .int .i64 0]) 2 16 Try.underlying39 hi hz0 hz1 hz2 rfl (by decide) _ _ _ rfl (World.ownsRow.alloc o3 _) ⟨w3.heap.size, 0, none⟩ 1 1 [.int .i64 (-(L.length : Int)), .int .i64 ((L.length : Int) + 3)] rfl rfl ?c1 ?c2 ?c3 ?c4 ?c5 ?_)
        case c1 => intro j u hj; exact pair_at w3 _ _ 25 j u hj
        case c2 => intro u hu; simp at hu; rcases hu with rfl | rfl <;> rfl
        case c3 => unfold maxLen; omega
        case c4 => omega
        case c5 => simp; omega
        · intro v' w9 hown' hgrow _
          have A9 := Below.al w3 (.cells #[.int .i64 (-(L.length : Int)), .int .i64 ((L.length : Int) + 3)] 25)
          have hsz : w2.heap.size ≤ (World.alloc w3 (.cells #[.int .i64 (-(L.length : Int)), .int .i64 ((L.length : Int) + 3)] 25)).heap.size := by simp; omega
          have G9 := grown_below (World.ownsRow.alloc o3 _) hgrow hsz
          have w9c : CurOk w9 w.heap.size p := CurOk.belowB (CurOk.below w3c A9) G9 (by omega)
          have b9 : Below w.heap.size w w9 := (b3.trans (A9.mono b3.size)).trans (G9.mono b2.size)
          have hs9 : w2.heap.size ≤ w9.heap.size := Nat.le_trans hsz G9.size
          have R9 : w9.ownsRow w2.heap.size 25 2 v' (L ++ [(-(L.length : Int), (L.length : Int) + 3)]).length (prs (L ++ [(-(L.length : Int), (L.length : Int) + 3)])) := by rw [prs_add]; simpa using hown'
          clear hown' hgrow G9 A9 hsz
          go_wp2
          go_roundw
          case rel => exact ⟨L ++ [(-(L.length : Int), (L.length : Int) + 3)], by simp; omega, by simp; try go_num, R9, w9c, b9, hs9⟩
          case measure => simp [intOf]; omega
      · have hd : decide ((L.length : Int) < 64 + x) = false := by simp; omega
        go_wp2_with fail
        go_ret
        exact ⟨u4, L, rfl, own_base o3 b2.size, by omega, b3⟩
set_option maxHeartbeats 400000 in
theorem DrawMeetAll_any (a : Option Addr) (n c : Nat) (w : World) (hn : n ≤ 1048576) (hcode : CodeB w w.heap.size a n) :
    Calls Try.prog 24 #[.slice a n c] w fun e w' => ∃ v : Value, ∃ L : List (Int × Int), e = .returned v ∧ w'.ownsRow w.heap.size 25 2 v L.length (prs L) ∧ L.length ≤ 100 ∧ Below w.heap.size w w' := by
  go_enter Try.func24, Try.ntmps24
  go_wp2_with fail
  refine (l1DrawList_any a n c _ hn hcode).mono ?_
  rintro e w1 ⟨v, L, rfl, o, hL, b⟩
  go_wp2_with fail
  go_ret
  exact ⟨v, L, rfl, o, hL, b⟩
end Go.Proofs.Ytogapogkdgaobaa
