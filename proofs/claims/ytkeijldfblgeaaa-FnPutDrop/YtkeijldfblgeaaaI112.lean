/- The contract of a roster its list. -/
import Derived.Test.YtkeijldfblgeaaaI111
import Derived.Deep.RegionHeld3
import Derived.Laws.MakeOwn
import Derived.WalkKit
import Derived.WalkSpells
import Derived.WalkLawsBesides
import Derived.Deep.RegionHeld
namespace Go.Proofs.Ytkeijldfblgeaaa
open Go.RowKit
set_option linter.unusedVariables false
theorem pv_inj {a b : PT} (h : pv a = pv b) : a = b := by
  obtain ⟨a0, a1, a2, a3, a4⟩ := a
  obtain ⟨b0, b1, b2, b3, b4⟩ := b
  simp [pv] at h
  obtain ⟨rfl, rfl, rfl, rfl, rfl⟩ := h
  rfl
theorem met_one {F : Int → Option PT} {D : DataW Value} {x : Int} {c : PT} {y : DataW Value × List MemPlace} (hD : ∀ z, D.atKey (.int .i64 x) z = atP (F x) z) (hv : R0p (pv c) = some y) (hat : ∀ zd, D.atKey (.int .i64 x) zd = y.1) : F x = some c := by
  obtain ⟨d, ps⟩ := y
  have e := (R0p_inv hv).2
  cases hx : F x with
  | none =>
    have q := (hD (.lit (.int .i64 0))).symm.trans (hat (.lit (.int .i64 0)))
    rw [hx] at q
    simp only [atP] at q
    rw [← e] at q
    cases q
  | some p =>
    have q := (hD (.lit (.int .i64 0))).symm.trans (hat (.lit (.int .i64 0)))
    rw [hx] at q
    simp only [atP] at q
    rw [← e] at q
    simp only [DataW.held.injEq] at q
    rw [pv_inj q]
theorem invKp : ∀ key kl, keyOf Try.prog 3 key = some kl → ∃ x, key = Value.int .i64 x := fun key kl hk => by
  obtain ⟨x, rfl, _⟩ := Maps.keyOf_int_inv Try.underlying3 hk
  exact ⟨x, rfl⟩
def pvU (c : Unit → PT) : Value := pv (c ())
theorem invVp : ∀ v y, R0p v = some y → ∃ c, v = pvU c := fun v y hv => by
  obtain ⟨y1, y2⟩ := y
  obtain ⟨c, hc⟩ := (R0p_inv hv).1
  exact ⟨fun _ => c, hc⟩
theorem mk_cap (m : Nat) (h : m ≤ 64) (w : World) : (Instr.makeSlice 34 (.int .i64 0) (.int .i64 (m : Int))).run Try.prog w = .ok (.slice (some ⟨w.heap.size, 0, none⟩) 0 m) (w.alloc (rowObjPeer m)) := by
  obtain ⟨i, hi, hz⟩ := Option.map_eq_some_iff.1 infoPeer
  simp only [Prod.mk.injEq] at hz
  obtain ⟨h1, h2, h3⟩ := hz
  have hr := run_make (P := Try.prog) w 34 51 i _ Try.underlying34 hi h1 .i64 .i64 0 m (by omega) (by omega) (by rw [h3]; omega) (by omega)
  simp only [Int.toNat_natCast, h2] at hr
  exact hr
theorem own_cap (m : Nat) (h : m ≤ 64) (w : World) : (w.alloc (rowObjPeer m)).ownsRow w.heap.size 51 5 (.slice (some ⟨w.heap.size, 0, none⟩) 0 m) ([] : List PT).length (prow []) := World.ownsRow_made w _ m (Nat.le_refl _) (by unfold maxLen; omega) (size_madeCells _ _)
theorem not_nil {w : World} {base s n : Nat} {T : TypeId} {v : Value} {xs : List Value} (h : w.ownsRow base T s v n xs) (hn : 0 < n) : v ≠ .slice none 0 0 := fun e => by
  rcases h.2 with ⟨_, h0⟩ | ⟨g, cap, cur, he, _⟩
  · omega
  · rw [he] at e; simp at e
theorem own_base {w : World} {base base' s n : Nat} {T : TypeId} {v : Value} {xs : List Value} (h : w.ownsRow base' T s v n xs) (hb : base ≤ base') : w.ownsRow base T s v n xs := by
  refine ⟨h.1, ?_⟩
  rcases h.2 with q | ⟨g, cap, cur, h1, h2, h3⟩
  · exact .inl q
  · exact .inr ⟨g, cap, cur, h1, Nat.le_trans hb h2, h3⟩
theorem ne_blk {o : Option Nat} {r : Nat} (h : ∀ g, o = some g → g ≠ r) : o = none ∨ o ≠ some r := by
  cases o with
  | none => exact .inl rfl
  | some g => exact .inr (fun e => h g rfl (Option.some.inj e))
set_option maxRecDepth 100000 in
set_option maxHeartbeats 8000000 in
theorem list_any (b n : Nat) (F : Int → Option PT) (L : List PT) (w : World) (MP : MapP w b n F) (hF : FLP F L) (h9 : L.length ≤ 9) :
    Calls Try.prog 28 #[.map (some b)] w fun e w' => ∃ v, e = .returned v ∧ w'.ownsRow w.heap.size 51 5 v L.length (prow L) ∧ Below w.heap.size w w' := by
  have hlen := MP.len hF
  have hmk := mk_cap L.length (by omega) w
  have O0 := own_cap L.length (by omega) w
  have B0 := Below.nw w (rowObjPeer L.length)
  obtain ⟨D, hown, hD, hsz⟩ := (MP.below B0).sized hF
  have hbl : b < w.heap.size := MP.lt
  have HF : Hid (FLP F L) := hF
  have HD : Hid (∀ x, (∀ z, D.atKey (.int .i64 x) z = atP (F x) z) ∧ Maps.has D (.int .i64 x) = (F x).isSome) := hD
  clear MP hF hD
  go_enter Try.func28, Try.ntmps28
  go_upto_region 2 with fail
  clear hmk hlen
  have hs1 : (w.alloc (rowObjPeer L.length)).heap.size = w.heap.size + 1 := by simp
  generalize w.alloc (rowObjPeer L.length) = w1 at *
  go_wp2_with (first
    | (at_range; refine wpList_range_own _ rfl _ 66 rfl 3 51 lawPk Try.underlying66 _ b n D rfl hown ?_; intro w0 hrg0 hg0 hs0))
  go_frame
  have B1 := B0.trans ((grown_bel hg0 (Nat.le_refl _) (by simp)).mono B0.size)
  have O1 := World.ownsRow.kept O0 hg0 (.inr (by simp [Value.ownBlock]))
  have hrs : w.heap.size < w1.heap.size := by omega
  clear hown hg0 hs0 O0 B0 hs1
  generalize w1.heap.size = r at *
  go_loopw [3] (fun v wr => ∃ (left : Lit → Bool) (cnt : Nat) (acc : List PT), wr.ranges Try.prog 3 R0p b r n D left cnt ∧ Met F left acc ∧ acc.length + cnt ≤ L.length ∧ wr.ownsRow w.heap.size 51 5 v acc.length (prow acc) ∧ v ≠ .slice none 0 0 ∧ (∀ g, v.ownBlock = some g → g ≠ r) ∧ Below w.heap.size w wr)
    (fun _ wr => wr.rangeLeft b r)
  case atStart =>
    refine ⟨_, _, [], hrg0, ⟨List.nodup_nil, fun q => ⟨fun h => by simp at h, fun ⟨h1, h2⟩ => ?_⟩⟩, by simp [hsz], O1, by simp, fun g hg => by simp [Value.ownBlock] at hg; omega, B1⟩
    rw [(HD.out q.1).2, h1] at h2
    cases h2
  case round =>
    obtain ⟨left, cnt, acc, hrg, hM, hc, OW, hnn, hne, hB⟩ := hrel
    have HM : Hid (Met F left acc) := hM
    clear hM
    have hBs := hB.size
    go_wp2_with (first
      | (at_next; (refine wpList_next_ranges _ rfl _ rfl 3 lawPk R0p (Value.int .i64) pvU invKp invVp b r n _ _ _ rfl hrg ?_ ?_)))
    · intro _ hl0
      have hp : acc.Perm L := HM.out.perm HF.out hl0
      have CP : Hid _ := fun g cap w' h => sortP_any HF.out hp w.heap.size g cap w' h (by omega)
      rcases OW.2 with ⟨he, _⟩ | ⟨g, cap, cur, rfl, hbase, _⟩
      · exact absurd he hnn
      clear hnn hne hrg
      go_wp2_with fail
      refine (CP.out g cap _ OW).mono ?_
      rintro e w9 ⟨rfl, O9, hg9⟩
      have B9 := hB.trans ((But.ofGrownK hg9).below hbase hBs)
      clear CP hg9
      go_wp2_with fail
      go_ret
      exact ⟨_, rfl, O9, B9⟩
    · intro x cf kl yd yp w2 cnt1 hkey hlk hv hat hrg1 hlt hg1 hs1 hen
      simp only [pvU] at hv hen ⊢
      generalize cf () = c at *
      obtain ⟨x', ex, rfl, _⟩ := Maps.keyOf_int_inv Try.underlying3 hkey
      obtain rfl : x = x' := by simpa using ex
      have hFx : F x = some c := met_one (HD.out x).1 hv hat
      have hx1 : c.1 = x := ((HF.out.2 x c).1 hFx).2
      have HM1 : Hid (Met F (fun z => left z && !z.sameKey (.int .i64 x)) (acc ++ [c])) := by
        subst hx1
        exact HM.out.step hFx hlk
      have HLE : Hid (wr.rangeLeft b r = cnt) := hrg.left_eq
      obtain ⟨y0, y1, y2, y3, y4⟩ := c
      have O2 := World.ownsRow.kept OW hg1 (ne_blk hne)
      have B2 := hB.trans (grown_bel hg1 hBs (fun q hq e => by have := Option.some.inj e; omega))
      clear hkey hlk hv hat hg1 hs1 OW hB hrg HM hFx hx1
      simp only [pv] at hen ⊢
      have A1 := Below.nw w2 (.cells #[.int .i64 y0, .int .i64 y1, .int .i64 y2, .int .i64 y3, .bool y4] 51)
      have KB := Bx5.new w2 (.int .i64 y0) (.int .i64 y1) (.int .i64 y2) (.int .i64 y3) (.bool y4) 51
      have hr3 := hrg1.alloc (.cells #[.int .i64 y0, .int .i64 y1, .int .i64 y2, .int .i64 y3, .bool y4] 51)
      replace O2 := own_belK' O2 A1
      replace B2 := B2.trans (A1.mono B2.size)
      clear hrg1
      go_upto_region 5 with fail
      clear hen A1
      generalize hbk : w2.heap.size = bk at *
      generalize w2.alloc (.cells #[.int .i64 y0, .int .i64 y1, .int .i64 y2, .int .i64 y3, .bool y4] 51) = w3 at *
      obtain ⟨k9, k0, k1, k2, k3, k4, f0, f1, f2, f3, f4⟩ := id KB
      have hBs2 := B2.size
      have hlr := hr3.lt
      go_wp2_with (at_builtin; refine add_peer rfl _ _ rfl w.heap.size acc _ rfl O2 rfl (by omega) (by omega) ?_; intro v' w9 O9 hg9 hn9)
      have HO9 : Hid (w9.ownsRow w.heap.size 51 5 v' (acc ++ [(y0, y1, y2, y3, y4)]).length (prow (acc ++ [(y0, y1, y2, y3, y4)]))) := O9
      have B9 := B2.trans (grown_belowK O2 hg9 hBs2)
      have hr9 := hr3.kept hg9 (fun e => by have := (World.ownsRow.lt O2 b e.symm).1; omega) (fun e => hne _ e.symm rfl)
      have HN9 : Hid (∀ g, v'.ownBlock = some g → g ≠ r) := fun g hg => by
        rcases hn9 g hg with q | q
        · exact hne g q
        · omega
      have HV : Hid (v' ≠ .slice none 0 0) := not_nil HO9.out (by simp)
      clear O9 hg9 hn9 O2 B2 hr3 k9 k0 k1 k2 k3 k4 f0 f1 f2 f3 f4 KB
      go_wp2_with fail
      go_roundw
      case rel => exact ⟨_, cnt1, acc ++ [(y0, y1, y2, y3, y4)], hr9, HM1.out, by simp; omega, HO9.out, HV.out, HN9.out, B9⟩
      case measure => rw [hr9.left_eq, HLE.out]; exact hlt
end Go.Proofs.Ytkeijldfblgeaaa
