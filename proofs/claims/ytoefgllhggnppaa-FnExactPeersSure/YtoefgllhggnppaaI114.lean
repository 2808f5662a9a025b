/- Contracts of PeersSure in the program. -/
import Derived.Test.YtoefgllhggnppaaI112
import Derived.Test.YtoefgllhggnppaaI108
import Derived.WalkKit
import Derived.WalkSpells
import Derived.WalkLawsBesides
import Derived.Deep.RegionHeld
namespace Go.Proofs.Ytoefgllhggnppaa
open Go.RowKit
set_option linter.unusedVariables false
open Go.Sort Go.Shelf Go.Lib
def fids (L : List PT) : List Int := (L.filter fun p => !p.2.2.2.2).map fun p => p.1
theorem fids_yes {L : List PT} {p : PT} (h : p.2.2.2.2 = false) : fids (L ++ [p]) = fids L ++ [p.1] := by simp [fids, h]
theorem fids_no {L : List PT} {p : PT} (h : p.2.2.2.2 = true) : fids (L ++ [p]) = fids L := by simp [fids, h]
theorem fids_len (L : List PT) : (fids L).length ≤ L.length := by
  rw [fids, List.length_map]
  exact List.length_filter_le _ _
theorem fids_perm {L K : List PT} (h : L.Perm K) : (fids L).Perm (fids K) := (h.filter _).map _
theorem fids_asc {F : Int → Option PT} {L : List PT} (h : FLP F L) : (fids L).Pairwise (· < ·) := by
  rw [fids, List.pairwise_map]
  exact h.1.filter _
theorem irow_map (L : List Int) : irow L = L.map (Value.int .i64) := by
  apply List.ext_getElem (by simp [irow])
  intro i h1 h2
  have hi : i < L.length := by simpa using h2
  simp [irow, MFInt, gI, hi]
theorem sort_asc {l m : List Int} (hp : l.Perm m) (hm : m.Pairwise (· < ·)) : l.mergeSort (fun x y => decide (x ≤ y)) = m := by
  have tr : ∀ a b c : Int, decide (a ≤ b) = true → decide (b ≤ c) = true → decide (a ≤ c) = true := fun a b c h1 h2 => by simp at *; omega
  have to' : ∀ a b : Int, (decide (a ≤ b) || decide (b ≤ a)) = true := fun a b => by simp; omega
  refine List.Perm.eq_of_pairwise (le := fun a b => decide (a ≤ b) = true) (fun a b _ _ h1 h2 => ?_) (List.pairwise_mergeSort tr to' _) (List.Pairwise.imp (fun {a b} hab => by simp; omega) hm) ((List.mergeSort_perm _ _).trans hp)
  simp at h1 h2
  omega
theorem sortI_any {l m : List Int} (hp : l.Perm m) (hm : m.Pairwise (· < ·)) (base : Nat) (v : Value) (w : World) (hl : l.length ≤ 64) (hown : w.ownsRow base 3 1 v l.length (irow l)) :
    Calls Try.prog 73 #[v] w fun e w' => e = .returned (.tuple #[]) ∧ w'.ownsRow base 3 1 v m.length (irow m) ∧ w.grownBy w' v.ownBlock := by
  rcases hown.2 with ⟨rfl, h0⟩ | ⟨g, cap, cur, rfl, hbase, hb, h1, h2, h3, h4⟩
  · have hc := Go.Proofs.AnyM.slices_Sort_int_none sortA none 0 w
    change Calls Try.prog 73 _ _ _ at hc
    have e1 : l = [] := List.eq_nil_of_length_eq_zero h0
    subst e1
    have e2 : m = [] := hp.nil_eq.symm
    subst e2
    refine hc.mono ?_
    rintro e w' ⟨rfl, rfl⟩
    exact ⟨rfl, hown, bel_grown (Below.refl _ _)⟩
  · have hH : Holds (Value.int .i64) w g 0 l.toArray := holds_laid (Value.int .i64) (N := l.length) rfl hb (by rw [Nat.mul_one, irow_map] at h4; exact h4)
    have hc := Go.Proofs.AnyM.slices_Sort_int sortA g 0 cap l w hH ((Array.getElem?_eq_some_iff.1 hb).1) (by omega)
    change Calls Try.prog 73 _ _ _ at hc
    rw [sort_asc hp hm] at hc
    refine hc.mono ?_
    rintro e w' ⟨rfl, n, os, rfl⟩
    have hlen := hp.length_eq
    refine ⟨rfl, ?_, grown_laid _ _⟩
    have q := own_laid (Value.int .i64) (n := n) (os := os) (ts := m) (N := m.length) (s := 1) (by omega) hbase hb (by omega) h2 h3
    rw [irow_map, hlen]
    exact q
set_option maxRecDepth 100000 in
set_option maxHeartbeats 8000000 in
theorem sure_any (b n : Nat) (F : Int → Option PT) (L : List PT) (w : World) (MP : MapP w b n F) (hF : FLP F L) (h9 : L.length ≤ 9) :
    Calls Try.prog 57 #[.map (some b)] w fun e w' => ∃ v, e = .returned v ∧ w'.ownsRow w.heap.size 3 1 v (fids L).length (irow (fids L)) ∧ Below w.heap.size w w' := by
  obtain ⟨D, hown, hD, hsz⟩ := MP.sized hF
  have hbl : b < w.heap.size := MP.lt
  have HF : Hid (FLP F L) := hF
  have HD : Hid (∀ x, (∀ z, D.atKey (.int .i64 x) z = atP (F x) z) ∧ Maps.has D (.int .i64 x) = (F x).isSome) := hD
  clear MP hF hD
  go_enter Try.func57, Try.ntmps57
  go_wp2_with (first
    | (at_range; refine wpList_range_own _ rfl _ 68 rfl 3 59 lawPk Try.underlying68 _ b n D rfl hown ?_; intro w0 hrg0 hg0 hs0))
  go_frame
  have B1 := grown_bel hg0 (Nat.le_refl _) (by simp)
  clear hown hg0 hs0
  go_loopw [3] (fun v wr => ∃ (left : Lit → Bool) (cnt : Nat) (acc : List PT), wr.ranges Try.prog 3 R0p b w.heap.size n D left cnt ∧ Met F left acc ∧ acc.length + cnt ≤ L.length ∧ wr.ownsRow w.heap.size 3 1 v (fids acc).length (irow (fids acc)) ∧ (∀ g, v.ownBlock = some g → g ≠ w.heap.size) ∧ Below w.heap.size w wr)
    (fun _ wr => wr.rangeLeft b w.heap.size)
  case atStart =>
    refine ⟨_, _, [], hrg0, ⟨List.nodup_nil, fun q => ⟨fun h => by simp at h, fun ⟨h1, h2⟩ => ?_⟩⟩, by simp [hsz], nil_int _ _, fun g hg => by simp [Value.ownBlock] at hg, B1⟩
    rw [(HD.out q.1).2, h1] at h2
    cases h2
  case round =>
    obtain ⟨left, cnt, acc, hrg, hM, hc, OW, hne, hB⟩ := hrel
    have HM : Hid (Met F left acc) := hM
    have hfl := fids_len acc
    clear hM
    have hBs := hB.size
    go_wp2_with (first
      | (at_next; refine wpList_next_ranges _ rfl _ rfl 3 lawPk R0p (Value.int .i64) pvU invKp invVp b w.heap.size n _ _ _ rfl hrg ?_ ?_))
    · intro _ hl0
      have hp : acc.Perm L := HM.out.perm HF.out hl0
      have CP : Hid _ := fun v w' h => sortI_any (fids_perm hp) (fids_asc HF.out) w.heap.size v w' (by omega) h
      clear hne hrg
      obtain ⟨av, cv, rfl, _, _, _⟩ := ownF_src OW
      go_wp2_with fail
      refine (CP.out _ _ OW).mono ?_
      rintro e w9 ⟨rfl, O9, hg9⟩
      have B9 := hB.trans (grown_belowK OW hg9 hBs)
      clear CP hg9
      go_wp2_with fail
      go_ret
      exact ⟨_, rfl, O9, B9⟩
    · intro x cf kl yd yp w2 cnt1 hkey hlk hv hat hrg1 hlt hg1 hs1 hen
      simp only [pvU] at hv hen ⊢
      generalize cf () = c at *
      obtain ⟨x', ex, rfl, _⟩ := Maps.keyOf_int_inv Try.underlying3 hkey
      obtain rfl : x = x' := by simpa using ex
      have hFx : F x = some c := met_one (HD.out x).1 hv hat
      have hx1 : c.1 = x := ((HF.out.2 x c).1 hFx).2
      have HM1 : Hid (Met F (fun z => left z && !z.sameKey (.int .i64 x)) (acc ++ [c])) := by
        subst hx1
        exact HM.out.step hFx hlk
      have HLE : Hid (wr.rangeLeft b w.heap.size = cnt) := hrg.left_eq
      obtain ⟨y0, y1, y2, y3, y4⟩ := c
      have HX : Hid (y0 = x) := hx1
      have O2 := World.ownsRow.kept OW hg1 (ne_blk hne)
      have B2 := hB.trans (grown_bel hg1 hBs (fun q hq e => by have := Option.some.inj e; omega))
      clear hkey hlk hv hat hg1 hs1 OW hB hrg HM hFx hx1
      simp only [pv] at hen ⊢
      have A1 := Below.nw w2 (.cells #[.int .i64 y0, .int .i64 y1, .int .i64 y2, .int .i64 y3, .bool y4] 59)
      have KB := Bx5.new w2 (.int .i64 y0) (.int .i64 y1) (.int .i64 y2) (.int .i64 y3) (.bool y4) 59
      have hr3 := hrg1.alloc (.cells #[.int .i64 y0, .int .i64 y1, .int .i64 y2, .int .i64 y3, .bool y4] 59)
      replace O2 := own_belK' O2 A1
      replace B2 := B2.trans (A1.mono B2.size)
      clear hrg1
      go_upto_region 5 with fail
      clear hen A1
      generalize hbk : w2.heap.size = bk at *
      generalize w2.alloc (.cells #[.int .i64 y0, .int .i64 y1, .int .i64 y2, .int .i64 y3, .bool y4] 59) = w3 at *
      obtain ⟨k9, k0, k1, k2, k3, k4, f0, f1, f2, f3, f4⟩ := id KB
      have hBs2 := B2.size
      have hlr := hr3.lt
      cases y4 with
      | true =>
        have HFD : Hid (fids (acc ++ [(y0, y1, y2, y3, true)]) = fids acc) := fids_no rfl
        go_wp2_with fail
        go_roundw
        case rel => exact ⟨_, cnt1, acc ++ [(y0, y1, y2, y3, true)], hr3, HM1.out, by simp; omega, by rw [HFD.out]; exact O2, hne, B2⟩
        case measure => rw [hr3.left_eq, HLE.out]; exact hlt
      | false =>
        have HFD : Hid (fids (acc ++ [(y0, y1, y2, y3, false)]) = fids acc ++ [x]) := by rw [Hid, fids_yes rfl, ← HX.out]
        generalize fids acc = la at *
        go_wp2_with (at_builtin; refine add_int rfl _ _ rfl w.heap.size la _ rfl O2 rfl (by omega) (by omega) ?_; intro v' w9 O9 hg9 hn9)
        have HO9 : Hid (w9.ownsRow w.heap.size 3 1 v' (la ++ [x]).length (irow (la ++ [x]))) := O9
        have B9 := B2.trans (grown_belowK O2 hg9 hBs2)
        have hr9 := hr3.kept hg9 (fun e => by have := (World.ownsRow.lt O2 b e.symm).1; omega) (fun e => hne _ e.symm rfl)
        have HN9 : Hid (∀ g, v'.ownBlock = some g → g ≠ w.heap.size) := fun g hg => by
          rcases hn9 g hg with q | q
          · exact hne g q
          · omega
        clear O9 hg9 hn9 O2 B2 hr3 k9 k0 k1 k2 k3 k4 f0 f1 f2 f3 f4 KB
        go_wp2_with fail
        go_roundw
        case rel => exact ⟨_, cnt1, acc ++ [(y0, y1, y2, y3, false)], hr9, HM1.out, by simp; omega, by rw [HFD.out]; exact HO9.out, HN9.out, B9⟩
        case measure => rw [hr9.left_eq, HLE.out]; exact hlt
set_option maxHeartbeats 1000000 in
theorem sure_nil (w : World) : Calls Try.prog 57 #[.map none] w fun e w' => e = .returned (.slice none 0 0) ∧ Below w.heap.size w w' := by
  have hrg := run_range_nilMap (P := Try.prog) w 68 3 59 Try.underlying68
  have hnx : ∀ ty, (Instr.next (.pointer (some ⟨w.heap.size, 0, none⟩)) false ty).run Try.prog (w.alloc (.mapIter none 0 #[] 0)) = _ := fun ty => run_next_nilMap w ty 0 0 #[]
  have hc := fun w' => Go.Proofs.AnyM.slices_Sort_int_none sortA none 0 w'
  change ∀ w', Calls Try.prog 73 _ _ _ at hc
  have B1 := Below.nw w (.mapIter none 0 #[] 0)
  go_enter Try.func57, Try.ntmps57
  go_wp2_with fail
  refine wp_loop_rounds 1 ?_
  rw [rounds_succ]
  go_wp2_with fail
  refine (hc _).mono ?_
  rintro e w' ⟨rfl, rfl⟩
  clear hrg hnx hc
  go_wp2_with fail
  go_ret
  exact ⟨rfl, B1⟩
set_option maxHeartbeats 1000000 in
theorem implPeersSure_any (a : Option Addr) (n c : Nat) (M : Nat → PT) (w : World) (hm : n ≤ maxLen) (hs : SrcC w a (n * 5) (MFPeer M)) :
    Calls Try.prog 37 #[.slice a n c] w fun e w' => ∃ v, e = .returned v ∧ w'.ownsRow w.heap.size 3 1 v (suL M n).length (irow (suL M n)) ∧ Below w.heap.size w w' := by
  cases h1 : oks M n
  · rw [suL_f h1]
    have C1 := rosterOf_bad a n c M w hm hs h1
    clear hs
    go_enter Try.func37, Try.ntmps37
    go_wp2_with fail
    refine C1.mono ?_
    rintro e w1 ⟨rfl, hb⟩
    go_wp2_with fail
    refine (sure_nil _).mono ?_
    rintro e w2 ⟨rfl, hb2⟩
    replace hb2 := hb.trans (hb2.mono hb.size)
    go_wp2_with fail
    go_ret
    exact ⟨_, rfl, nil_int _ _, hb2⟩
  · rw [suL_t h1]
    have C1 := rosterOf_ok a n c M w hm hs h1
    have HF : Hid (FLP (lkP M n) (lst M n)) := FLP.ofLst h1
    have hn8 := oks_le h1
    have hLn : (lst M n).length ≤ 9 := by rw [lst_len]; omega
    clear hs
    go_enter Try.func37, Try.ntmps37
    go_wp2_with fail
    refine C1.mono ?_
    rintro e w1 ⟨b, rfl, hbb, MP, hb⟩
    clear C1
    go_wp2_with fail
    refine (sure_any b n _ _ _ MP HF.out hLn).mono ?_
    rintro e w2 ⟨v, rfl, O2, hb2⟩
    replace hb2 := hb.trans (hb2.mono hb.size)
    obtain ⟨av, cv, rfl, _, _, _⟩ := ownF_src O2
    have hbs := hb.size
    go_wp2_with fail
    go_ret
    exact ⟨_, rfl, own_base O2 hbs, hb2⟩
end Go.Proofs.Ytoefgllhggnppaa
