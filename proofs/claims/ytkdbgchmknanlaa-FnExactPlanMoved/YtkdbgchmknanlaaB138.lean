/- OwnersOf in the specification. -/
import Derived.Test.YtkdbgchmknanlaaB133
import Derived.Test.YtkdbgchmknanlaaI106
import Derived.Deep.RegionHeld3
import Derived.WalkKit
import Derived.WalkSpells
import Derived.WalkLawsBesides
import Derived.Deep.RegionHeld
namespace Go.Proofs.Ytkdbgchmknanlaa
open Go.RowKit
set_option linter.unusedVariables false
theorem own_baseI {w : World} {base base' s n : Nat} {T : TypeId} {v : Value} {xs : List Value} (h : w.ownsRow base' T s v n xs) (hb : base ≤ base') : w.ownsRow base T s v n xs := by
  refine ⟨h.1, ?_⟩
  rcases h.2 with q | ⟨g, cap, cur, h1, h2, h3⟩
  · exact .inl q
  · exact .inr ⟨g, cap, cur, h1, Nat.le_trans hb h2, h3⟩
/- The owners of a plan, in the specification. -/
theorem hasO_yes {M : Nat → SlT} {o : Int} {j : Nat} (h : hasO M o j = true) : hasO M o (j + 1) = true := by rw [hasO, h]; rfl
theorem hasO_at {M : Nat → SlT} {o : Int} {j : Nat} (h : hasO M o j = false) : hasO M o (j + 1) = ((M j).1 == o) := by rw [hasO, h]; rfl
theorem owL_yes {M : Nat → SlT} {n q : Nat} (h : hasO M (q : Int) n = true) : owL M n (q + 1) = owL M n q ++ [(q : Int)] := by rw [owL, h]
theorem owL_no {M : Nat → SlT} {n q : Nat} (h : hasO M (q : Int) n = false) : owL M n (q + 1) = owL M n q := by rw [owL, h]
set_option maxRecDepth 100000 in
set_option maxHeartbeats 16000000 in
theorem specOwnersOf_any (s g : Int) (a : Option Addr) (n c : Nat) (M : Nat → SlT) (w : World) (hm : n ≤ maxLen) (hs : SrcC w a (n * 2) (MFSlot M)) :
    Calls Try.prog 32 #[.agg #[.int .i64 s, .int .i64 g, .slice a n c]] w fun e w' => ∃ v, e = .returned v ∧ w'.ownsRow w.heap.size 3 1 v (owA s g M n).length (irow (owA s g M n)) ∧ Below w.heap.size w w' := by
  have A0 := Below.nw w (.cells #[.int .i64 s, .int .i64 g, .slice a n c] 29)
  have A1 := Below.nw (w.alloc (.cells #[.int .i64 s, .int .i64 g, .slice a n c] 29)) (.cells #[] 3)
  have N := (Tx3.new w (.int .i64 s) (.int .i64 g) (.slice a n c) 29).below A1
  have OW := made_int (w.alloc (.cells #[.int .i64 s, .int .i64 g, .slice a n c] 29))
  have B := A0.trans (A1.mono A0.size)
  simp only [World.size_alloc] at OW
  clear A0 A1
  have hjo : w.heap.size < w.heap.size + 1 := by omega
  have hjs : w.heap.size + 1 ≤ ((w.alloc (.cells #[.int .i64 s, .int .i64 g, .slice a n c] 29)).alloc (.cells #[] 3)).heap.size := by simp
  have HS : Hid (SrcC w a (n * 2) (MFSlot M)) := hs
  clear hs
  have C1 := fun w' h => specPlanOk_any s g a n c M w' hm h
  cases h1 : plB s g M n
  · have e0 : owA s g M n = [] := by unfold owA; rw [h1]
    rw [e0]
    rw [h1] at C1
    clear e0
    go_enter Try.func32, Try.ntmps32
    go_upto_region 2 with fail
    generalize (w.alloc (.cells #[.int .i64 s, .int .i64 g, .slice a n c] 29)).alloc (.cells #[] 3) = v at *
    generalize w.heap.size + 1 = jo at *
    go_wp2_with fail
    go_loopw [3, 4] (fun s3 i wr => s3 = .slice (some ⟨jo, 0, none⟩) 0 0 ∧ i = .int .i64 0 ∧ Tx3 wr w.heap.size (.int .i64 s) (.int .i64 g) (.slice a n c) ∧ wr.ownsRow jo 3 1 (.slice (some ⟨jo, 0, none⟩) 0 0) ([] : List Int).length (irow []) ∧ Below w.heap.size w wr) (fun _ i _ => 0)
    case atStart => exact ⟨rfl, rfl, N, OW, B⟩
    case round =>
      clear N OW B
      obtain ⟨rfl, rfl, N, OW, B⟩ := hrel
      obtain ⟨n0, n1, n2, n3, n4, n5, n6⟩ := id N
      go_wp2_with fail
      refine (C1 _ (HS.out.below B)).mono ?_
      rintro e v1 ⟨rfl, hb⟩
      clear n0 n1 n2 n3 n4 n5 n6
      replace B := B.trans (hb.mono B.size)
      replace OW := own_belK' OW hb
      clear hb
      go_wp2_with fail
      go_ret
      exact ⟨_, rfl, own_baseI OW (Nat.le_of_lt hjo), B⟩
  have e0 : owA s g M n = owL M n 8 := by unfold owA; rw [h1]
  rw [e0]
  rw [h1] at C1
  obtain ⟨p1, p2, p3, p4⟩ := plB_t h1
  clear e0 p1 p2 p4 h1
  go_enter Try.func32, Try.ntmps32
  go_upto_region 2 with fail
  generalize (w.alloc (.cells #[.int .i64 s, .int .i64 g, .slice a n c] 29)).alloc (.cells #[] 3) = v at *
  generalize w.heap.size + 1 = jo at *
  go_wp2_with fail
  go_loopw [3, 4] (fun s3 i wr => ∃ (q : Nat), q ≤ 8 ∧ i = .int .i64 q ∧ Tx3 wr w.heap.size (.int .i64 s) (.int .i64 g) (.slice a n c) ∧ wr.ownsRow jo 3 1 s3 (owL M n q).length (irow (owL M n q)) ∧ jo ≤ wr.heap.size ∧ Below w.heap.size w wr) (fun _ i _ => 8 - (intOf i).toNat)
  case atStart => exact ⟨0, Nat.zero_le _, rfl, N, OW, hjs, B⟩
  case round =>
    clear N OW B hjs
    obtain ⟨q, hq, rfl, N, OW, hjs, B⟩ := hrel
    by_cases hlt : q < 8
    · have hli : (q : Int) < (8 : Int) := by omega
      have HQ : Hid (q < 8) := hlt
      obtain ⟨n0, n1, n2, n3, n4, n5, n6⟩ := id N
      go_wp2_with fail
      refine (C1 _ (HS.out.below B)).mono ?_
      rintro e v1 ⟨rfl, hb⟩
      clear n0 n1 n2 n3 n4 n5 n6
      replace B := B.trans (hb.mono B.size)
      replace N := N.below hb
      replace OW := own_belK' OW hb
      replace hjs := Nat.le_trans hjs hb.size
      clear hb hlt hq
      go_wp2_with fail
      go_loopw [5, 6] (fun f i wr => ∃ (j : Nat), j ≤ n ∧ i = .int .i64 j ∧ f = .bool (hasO M (q : Int) j) ∧ v1 = wr) (fun _ i _ => n - (intOf i).toNat)
      case atStart => exact ⟨0, Nat.zero_le _, rfl, rfl, by first | rfl | trivial⟩
      case round =>
        obtain ⟨j, hj, rfl, rfl, rfl⟩ := hrel
        by_cases hlt : j < n
        · have hli2 : (j : Int) < (n : Int) := by omega
          have HLT : Hid (j < n) := hlt
          rcases HS.out.below B with h0 | ⟨b, off, rfl, hf⟩
          · exact absurd h0 (by omega)
          obtain ⟨o, l, hM⟩ := tupSlot M j
          obtain ⟨c1, c2⟩ := hf.elSlot hlt hM
          clear hf hlt hj
          obtain ⟨n0, n1, n2, n3, n4, n5, n6⟩ := id N
          cases hh : hasO M (q : Int) j
          · have HE : Hid (hasO M (q : Int) (j + 1) = (o == (q : Int))) := by rw [Hid, hasO_at hh, hM]
            clear hh hM
            go_wp2_with fail
            go_roundw
            case rel => exact ⟨j + 1, HLT.out, by go_num, by rw [HE.out], by first | rfl | trivial⟩
            case measure => have hlt' := HLT.out; simp [intOf]; omega
          · have HE : Hid (hasO M (q : Int) (j + 1) = true) := hasO_yes hh
            clear hh hM
            go_wp2_with fail
            go_roundw
            case rel => exact ⟨j + 1, HLT.out, by go_num, by rw [HE.out], by first | rfl | trivial⟩
            case measure => have hlt' := HLT.out; simp [intOf]; omega
        · have hkn : j = n := by omega
          subst hkn
          have hli2 : ¬ (j : Int) < (j : Int) := by omega
          obtain ⟨n0, n1, n2, n3, n4, n5, n6⟩ := id N
          cases hh : hasO M (q : Int) j
          · have HE : Hid (owL M j (q + 1) = owL M j q) := owL_no hh
            clear hh
            go_wp2_with fail
            go_roundw
            case rel => exact ⟨q + 1, HQ.out, by go_num, N, by rw [HE.out]; exact OW, hjs, B⟩
            case measure => have hlt' := HQ.out; simp [intOf]; omega
          · have HE : Hid (owL M j (q + 1) = owL M j q ++ [(q : Int)]) := owL_yes hh
            have hlen : (owL M j q).length ≤ 64 := Nat.le_trans (owL_len M j q) (by have := HQ.out; omega)
            clear hh
            generalize owL M j q = Lq at *
            go_upto_region 4 with (at_builtin; refine add_int rfl _ _ rfl jo Lq _ rfl OW rfl hlen hjs ?_; intro v' w9 O9 hg9 hn9)
            clear n0 n1 n2 n3 n4 n5 n6
            have HO9 : Hid (w9.ownsRow jo 3 1 v' (Lq ++ [(q : Int)]).length (irow (Lq ++ [(q : Int)]))) := O9
            have B9 := B.trans ((grown_belowK OW hg9 hjs).mono (Nat.le_of_lt hjo))
            have N9 := N.kept hg9 (fun e => by have := (World.ownsRow.lt OW _ e.symm).1; omega)
            have hj9 : jo ≤ w9.heap.size := Nat.le_trans hjs hg9.size
            clear O9 OW hg9 hn9 B N hjs
            go_wp2_with fail
            go_roundw
            case rel => exact ⟨q + 1, HQ.out, by go_num, N9, by rw [HE.out]; exact HO9.out, hj9, B9⟩
            case measure => have hlt' := HQ.out; simp [intOf]; omega
    · have e8 : q = 8 := by omega
      subst e8
      have hli : ¬ ((8 : Nat) : Int) < (8 : Int) := by omega
      go_wp2_with fail
      go_ret
      exact ⟨_, rfl, own_baseI OW (Nat.le_of_lt hjo), B⟩
end Go.Proofs.Ytkdbgchmknanlaa
