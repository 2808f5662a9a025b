/- For every list of sources, drift, interval and all numbers the program answers PeersMark as the specification does, every field, in memory of its own, and changes nothing of the list; no condition. -/
import Derived.Test.YtoefgllhggnppaaRows
import Derived.Test.YtoefgllhggnppaaL107
import Derived.WalkKit
import Derived.ProofKit
import Derived.OpenShut
import Derived.ShutString
import Derived.ChangeOld
import Derived.ChangeSame
import Derived.Below
import Derived.Lib.SmallJoins
import Derived.Deep.SlicePairs
import Derived.Deep.Slices
import Derived.Deep.Strs
namespace Go.Proofs.Ytoefgllhggnppaa
open Go.ChangeShapes Go.WideShapes Go.ChangeAt Go.RowKit Go.Joins Go.Deep
open Go.ChangeMaps (open_string shut_string)
set_option linter.unusedVariables false
namespace FnExactPeersMarkRow
theorem own : ownKnob Try.prog.godebug = none := by kernel_rfl
theorem laidOut : laidOutB Try.prog = true := by kernel_rfl
def ivOf (v : Value) : Int := match v with | .int _ z => z | _ => 0
theorem add_at (b off n : Nat) : (⟨b, off, none⟩ : Addr).add n = ⟨b, off + n, none⟩ := by
  unfold Addr.add
  split
  · next h => subst h; rfl
  · rfl
theorem fields4 {H : Type} {enc : TypeId × Value → H} {P : Program} {w : World} {base : Nat} {sp : Nat → Bool} {held : Bool} {t : TypeId} {f0 f1 f2 f3 : Field} {fuel : Nat} {cs : List Value} {x : DataW H × List MemPlace} (ht : P.underlying t = some (.struct #[f0, f1, f2, f3])) (h : DataW.trod enc P w base sp held fuel t cs = some x) :
    ∃ y0 y1 y2 y3 n, DataW.trod enc P w base sp held n f0.type ((cs.drop f0.offset).take (P.cellsOf f0.type)) = some y0 ∧ DataW.trod enc P w base sp held n f1.type ((cs.drop f1.offset).take (P.cellsOf f1.type)) = some y1 ∧ DataW.trod enc P w base sp held n f2.type ((cs.drop f2.offset).take (P.cellsOf f2.type)) = some y2 ∧ DataW.trod enc P w base sp held n f3.type ((cs.drop f3.offset).take (P.cellsOf f3.type)) = some y3 := by
  obtain ⟨xs, n, _, rfl, hl, hlen, hf⟩ := DataW.trod_struct ht h
  match xs, hlen with
  | [y0, y1, y2, y3], _ => exact ⟨y0, y1, y2, y3, n, by simpa using hf 0 f0 rfl, by simpa using hf 1 f1 rfl, by simpa using hf 2 f2 rfl, by simpa using hf 3 f3 rfl⟩
set_option maxRecDepth 100000 in
theorem lifted (os : Os) (started : os.Started) (H : Type) (enc : TypeId × Value → H) :
    ReturnsInHanded {} Try.checked os 7 .any (Rows.fnExactPeersMarkSpec.pre6 enc Try.prog Try.f7 Rows.fnExactPeersMarkRow.domain false) (Rows.fnExactPeersMarkSpec.post enc Try.prog Try.f7 false true false false) := by
  refine returnsInHanded_of_change (C := Try.checked) own started (by kernel_rfl) Try.func7
    (ChangeSpec.witness6 (enc := enc) (C := Try.checked) false ⟨#[], #[.slice none 0 0, .agg #[.int .i64 0, .int .i64 0], .int .i64 0, .int .i64 0, .agg #[.int .i64 0, .int .i64 0]], []⟩ 8 (by kernel_rfl) (by kernel_rfl) (by kernel_rfl) (by kernel_rfl)) ?_
  intro W base args ds gs before hval0 hW hcnd _
  have hval : ∀ (j : Nat) t v, Try.f7.params[j]? = some t → args[j]? = some v → Value.okWide Try.prog W .any base t v := hval0
  have hW' := hW
  obtain ⟨p, q, hA0, hV, rfl, hfz, hnd⟩ := hW
  have hA : DataW.TrodAll enc Try.prog W 0 (fun _ => true) true Try.f7.params.toList args.toList ds p := hA0
  rw [Try.params7] at hA hval
  obtain ⟨v0, vs0, d0, ds0, p0, q0, hargs, rfl, rfl, h0, r0⟩ := trodAll_cons hA
  obtain ⟨v1, vs1, d1, ds1, p1, q1, rfl, rfl, rfl, h1, r1⟩ := trodAll_cons r0
  obtain ⟨v2, vs2, d2, ds2, p2, q2, rfl, rfl, rfl, h2, r2⟩ := trodAll_cons r1
  obtain ⟨v3, vs3, d3, ds3, p3, q3, rfl, rfl, rfl, h3, r3⟩ := trodAll_cons r2
  obtain ⟨v4, vs4, d4, ds4, p4, q4, rfl, rfl, rfl, h4, r4⟩ := trodAll_cons r3
  obtain ⟨rfl, rfl, rfl⟩ := trodAll_nil r4
  obtain rfl : args = #[v0, v1, v2, v3, v4] := by cases args; simp_all
  obtain ⟨rfl, rfl⟩ := trodVars_none hV
  have k0 := h0
  have lt0 : ∀ x ∈ p0, x.block < W.heap.size := by obtain ⟨m, hm⟩ := k0; exact DataW.trod_lt m _ _ _ hm
  obtain ⟨a0, len0, cap0, rfl⟩ := okWide_slice Try.underlying22 (hval 0 22 v0 rfl rfl)
  obtain ⟨fuel0, hfu0⟩ := h0
  have key0 : len0 ≤ maxLen ∧ ∃ M : Nat → PT, SrcC W a0 (len0 * 5) (MFPeer M) ∧ ∀ i, i < len0 → (Lit.int .i64 ((M i).1)).wf = true := by
    rcases open_slice Try.underlying22 hfu0 with ⟨hcs, _⟩ | ⟨x, l, c, m, nn, D, Pl, hcs, _, hl, hm, hmm, _, hx⟩
    · simp [Value.cells] at hcs
      obtain ⟨rfl, rfl, rfl⟩ := hcs
      exact ⟨by simp [maxLen], fun _ => zP, .inl (by omega), fun i hi => absurd hi (Nat.not_lt_zero _)⟩
    · simp [Value.cells] at hcs
      obtain ⟨rfl, rfl, rfl⟩ := hcs
      have hlm : len0 ≤ m := by rw [hmm]; split <;> omega
      have ce : Try.prog.cellsOf 64 = 5 := by kernel_rfl
      have ci : Try.prog.cellsOf 3 = 1 := by kernel_rfl
      have cb : Try.prog.cellsOf 4 = 1 := by kernel_rfl
      have cd : Try.prog.cellsOf 30 = 2 := by kernel_rfl
      have each : ∀ i, i < m → ∃ q : PT, (∀ j, j < 5 → W.cell? (x.add (i * 5 + j)) = some (MCPeer q j)) ∧ (Lit.int .i64 (q.1)).wf = true := by
        intro i hi
        obtain ⟨cs', h1, h2⟩ := hx i hi
        rw [ce] at h1
        obtain ⟨_, hlen, hcell⟩ := World.cells?_some h1
        match cs', hlen, h2, hcell with
        | [c0, c1, c2, c3, c4], _, h2, hcell =>
          obtain ⟨y0, y1, y2, y3, nf, t0, t1, t2, t3⟩ := fields4 Try.underlying64 h2
          simp [ci, cb, cd] at t0 t1 t2 t3
          obtain ⟨m0, em0, _, wm0⟩ := DataW.trod_int Try.underlying3 t0
          simp at em0
          subst em0
          obtain ⟨za, zb, nm, _, _, ua, ub⟩ := trod_struct2 Try.underlying30 t1
          simp [ci] at ua ub
          obtain ⟨m1, em1, _, wm1⟩ := DataW.trod_int Try.underlying3 ua
          simp at em1
          subst em1
          obtain ⟨m2, em2, _, wm2⟩ := DataW.trod_int Try.underlying3 ub
          simp at em2
          subst em2
          obtain ⟨m3, em3, _, wm3⟩ := DataW.trod_int Try.underlying3 t2
          simp at em3
          subst em3
          obtain ⟨m4, em4, _⟩ := DataW.trod_bool Try.underlying4 t3
          simp at em4
          subst em4
          refine ⟨(m0, m1, m2, m3, m4), fun j hj => ?_, wm0⟩
          have e := hcell j (by omega)
          rw [add_add] at e
          rw [e]
          match j, hj with
          | 0, _ => rfl
          | 1, _ => rfl
          | 2, _ => rfl
          | 3, _ => rfl
          | 4, _ => rfl
      haveI : Inhabited PT := ⟨zP⟩
      obtain ⟨M, hM⟩ := choose_lt each
      refine ⟨Nat.le_trans hl hm, M, ?_, fun i hi => (hM i (by omega)).2⟩
      by_cases hz : len0 = 0
      · exact .inl (by omega)
      · obtain ⟨b, off, spot⟩ := x
        have h00 := (hM 0 (by omega)).1 0 (by decide)
        have hspot : spot = none := by
          have := World.cell?_spot h00
          simpa [Addr.add] using this
        subst hspot
        have hblk : b < W.heap.size := by
          have := World.block_lt_of_cell? W _ h00
          simpa [Addr.add] using this
        refine .inr ⟨b, off, rfl, hblk, fun j hj => ?_⟩
        have e := (hM (j / 5) (by omega)).1 (j % 5) (by omega)
        rw [show j / 5 * 5 + j % 5 = j by omega, add_at] at e
        exact e
  obtain ⟨hmax0, f0, hsrc0, hstr0⟩ := key0
  have k1 := h1
  have lt1 : ∀ x ∈ p1, x.block < W.heap.size := by obtain ⟨m, hm⟩ := k1; exact DataW.trod_lt m _ _ _ hm
  obtain ⟨c1, e1, y1, z1, m1, rfl, g1, gp1, hy1, hz1⟩ := open_agg2 Try.underlying43 (by kernel_rfl) (show Try.prog.cellsOf 43 = 2 by kernel_rfl) (hval 1 43 v1 rfl rfl) h1
  obtain ⟨a1, ea1, ya1, wa1⟩ := DataW.trod_int Try.underlying3 hy1
  obtain ⟨b1, eb1, yb1, wb1⟩ := DataW.trod_int Try.underlying3 hz1
  simp at ea1 eb1
  subst ea1 eb1
  obtain ⟨a2, rfl, rfl, rfl, w2⟩ := open_int Try.underlying3 (hval 2 3 v2 rfl rfl) h2
  obtain ⟨a3, rfl, rfl, rfl, w3⟩ := open_int Try.underlying3 (hval 3 3 v3 rfl rfl) h3
  have k4 := h4
  have lt4 : ∀ x ∈ p4, x.block < W.heap.size := by obtain ⟨m, hm⟩ := k4; exact DataW.trod_lt m _ _ _ hm
  obtain ⟨c4, e4, y4, z4, m4, rfl, g4, gp4, hy4, hz4⟩ := open_agg2 Try.underlying30 (by kernel_rfl) (show Try.prog.cellsOf 30 = 2 by kernel_rfl) (hval 4 30 v4 rfl rfl) h4
  obtain ⟨a4, ea4, ya4, wa4⟩ := DataW.trod_int Try.underlying3 hy4
  obtain ⟨b4, eb4, yb4, wb4⟩ := DataW.trod_int Try.underlying3 hz4
  simp at ea4 eb4
  subst ea4 eb4
  clear hA0 hval0
  refine (lawPeersMark a0 len0 cap0 f0 a1 b1 a2 a3 a4 b4 W hmax0 hsrc0 hstr0 wa1 wb1 w2 w3 wa4 wb4).mono fun e W' ⟨he, bel⟩ => ?_
  subst he
  exact ⟨_, rfl, _, _, _, [], _, [], hW', trodAll_mk1 (shut_bool Try.underlying4 _), (trodAll_cons_mk (Below.trod laidOut (by kernel_rfl) (of_decide_eq_true (by kernel_rfl)) k0 bel lt0) (trodAll_cons_mk (Below.trod laidOut (by kernel_rfl) (of_decide_eq_true (by kernel_rfl)) k1 bel lt1) (trodAll_cons_mk (shut_int Try.underlying3 w2) (trodAll_cons_mk (shut_int Try.underlying3 w3) (trodAll_cons_mk (Below.trod laidOut (by kernel_rfl) (of_decide_eq_true (by kernel_rfl)) k4 bel lt4) trodAll_mk0))))), rfl, bel.frame _, fun h => by cases h⟩
theorem over : Rows.fnExactPeersMarkRow.holds Try.pinned (OpenSpec.ofChange Rows.fnExactPeersMarkSpec) :=
  OpenClaim.holds_of_wide 7 Try.f7 rfl rfl rfl rfl rfl rfl rfl ⟨rfl, rfl, rfl, rfl, rfl⟩ rfl rfl rfl rfl rfl (by kernel_rfl) Try.func7 (by kernel_rfl)
    (of_decide_eq_true (by kernel_rfl)) (by unfold Func.isWrapper; first | (rw [if_pos (by decide +kernel)]; kernel_rfl) | (rw [if_neg (by decide +kernel)]; exact ⟨rfl, rfl⟩))
    (fun os started H enc _ => lifted os started H enc)
end FnExactPeersMarkRow
theorem fnExactPeersMark_holds : Rows.FnExactPeersMarkSaid := FnExactPeersMarkRow.over
end Go.Proofs.Ytoefgllhggnppaa
