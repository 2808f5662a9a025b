/- The walk of FnReadings. -/
import Derived.Test.YtdllkfllnljaaaaV124
import Derived.Test.YtdllkfllnljaaaaA130
import Derived.Test.YtdllkfllnljaaaaA131
import Derived.Test.YtdllkfllnljaaaaA134
import Derived.Test.YtdllkfllnljaaaaA135
import Derived.Test.YtdllkfllnljaaaaA137
import Derived.Test.YtdllkfllnljaaaaK1
import Derived.Deep.RegionHeld3
import Derived.WalkKit
import Derived.WalkSpells
import Derived.WalkLawsBesides
import Derived.Deep.RegionHeld
namespace Go.Proofs.Ytdllkfllnljaaaa
open Go.RowKit
set_option linter.unusedVariables false
/- The looks that are kept are right ones. -/
def allR (K : List LkT) : Prop := ∀ i, i < K.length → (gK K i).1 = true → okI (gK K i).2.1 (gK K i).2.2 = true
theorem allR_nil : allR [] := fun i hi => absurd hi (Nat.not_lt_zero _)
theorem allR_add {K : List LkT} {y : Bool} {lo hi : Int} (h : allR K) (hy : y = true → okI lo hi = true) : allR (K ++ [(y, lo, hi)]) := by
  intro i hi
  by_cases e : i < K.length
  · rw [gK_old e]; exact h i e
  · have e2 : i = K.length := by rw [List.length_append] at hi; simp at hi; omega
    subst e2
    rw [gK_new]
    exact hy

set_option maxRecDepth 100000 in
set_option maxHeartbeats 16000000 in
theorem walkReadings (a0 : Option Addr) (l0 c0 : Nat) (w : World) (hcode : CodeB w w.heap.size a0 l0) :
    Calls Try.prog 3 #[.slice a0 l0 c0] w fun e w' => e = .returned (.bool true) ∧ Below w.heap.size w w' := by
  have HC : Hid (CodeB w w.heap.size a0 l0) := hcode
  clear hcode
  go_enter Try.func3, Try.ntmps3
  go_wp2_with fail
  refine (big_any _ _ _ _).mono ?_
  rintro e w' ⟨rfl, rfl⟩
  by_cases hbg : 1048576 < (l0 : Int)
  · have hbd : decide (1048576 < (l0 : Int)) = true := decide_eq_true hbg
    go_wp2
    go_ret
    exact ⟨rfl, Below.refl _ _⟩
  have hbd : decide (1048576 < (l0 : Int)) = false := decide_eq_false hbg
  have hl0 : l0 ≤ 1048576 := by omega
  go_wp2_with fail
  refine (DrawAppRun_any a0 l0 c0 w hl0 HC.out).mono ?_
  rintro e v ⟨h, l, vl, Ls, rfl, O, hLs, B⟩
  clear hbd hbg HC hl0
  obtain ⟨av, cv, rfl, _, _, Q0⟩ := ownF_src O
  have V := SrcK.of Q0
  clear O Q0
  have A0 := Below.nw v (.cells #[.bool h, .int .i64 l] 25)
  replace V := V.below A0
  replace B := B.trans (A0.mono B.size)
  clear A0
  go_upto_region 4 with fail
  generalize hv1 : v.alloc (.cells #[.bool h, .int .i64 l] 25) = v1 at *
  have hvs : v.heap.size ≤ v1.heap.size := by rw [← hv1]; simp
  clear hv1
  generalize v.heap.size = jv at *
  have A0 := Below.nw v1 (.cells #[] 32)
  have OW := made_look v1
  have hjb : w.heap.size ≤ v1.heap.size := B.size
  go_upto_region 5 with fail
  replace V := V.below A0
  replace B := B.trans (A0.mono B.size)
  have hjs : v1.heap.size ≤ (v1.alloc (.cells #[] 32)).heap.size := A0.size
  clear A0
  generalize v1.alloc (.cells #[] 32) = v2 at *
  generalize v1.heap.size = jo at *
  generalize hn : Ls.length = n at *
  clear hn
  go_wp2_with fail
  go_loopw [5, 6] (fun s5 i wr => ∃ (k : Nat) (K : List LkT), k ≤ n ∧ k ≤ 200 ∧ i = .int .i64 k ∧ K.length ≤ k ∧ allR K ∧ wr.ownsRow jo 32 3 s5 K.length (lrow K) ∧ jo ≤ wr.heap.size ∧ SrcK wr av (n * 3) (MFLook (gK Ls)) jv ∧ Below w.heap.size w wr) (fun _ i _ => n - (intOf i).toNat)
  case atStart => exact ⟨0, [], Nat.zero_le _, Nat.zero_le _, rfl, Nat.le_refl _, allR_nil, OW, hjs, V, B⟩
  case round =>
    clear V OW B hjs
    obtain ⟨k, K, hk, hk2, rfl, hK, hR, OW, hjs, V, B⟩ := hrel
    by_cases hlt : k < n ∧ k < 200
    · obtain ⟨hl1, hl2⟩ := hlt
      have hi1 : (k : Int) < (n : Int) := by omega
      have hi2 : (k : Int) < (200 : Int) := by omega
      obtain ⟨b, off, rfl, hbj, hf⟩ : ∃ b off, av = some ⟨b, off, none⟩ ∧ b < jv ∧ Cs wr b off (n * 3) (MFLook (gK Ls)) := by
        rcases V with q | q
        · exact absurd q (by omega)
        · exact q
      obtain ⟨y, lo, hi, hM⟩ := tupLook (gK Ls) k
      have LK : Hid (∀ w', Below wr.heap.size wr w' → w'.cell? ⟨b, off + k * 3, none⟩ = some (.bool y) ∧ w'.cell? ⟨b, off + k * 3 + 1, none⟩ = some (.int .i64 lo) ∧ w'.cell? ⟨b, off + k * 3 + 2, none⟩ = some (.int .i64 hi)) := fun w' hw => (hf.below hw hf.1).elLook hl1 hM
      have HLT : Hid (k < n) := hl1
      have HL2 : Hid (k < 200) := hl2
      have HK : Hid (K.length ≤ k) := hK
      have hlen : K.length ≤ 1048576 := by omega
      clear hM hf hbj hl1 hl2 hK hk hk2
      cases y
      · have HR : Hid (allR (K ++ [(false, lo, hi)])) := allR_add hR (fun q => absurd q (by decide))
        clear hR
        have hjx := hjs
        clear hjs
        generalize wr = wz at *
        have BZ := Below.refl wz.heap.size wz
        obtain ⟨c3, c4, c5⟩ := LK.out wz BZ
        go_upto_region 7 with (at_builtin; refine add_look rfl _ _ rfl jo K _ rfl OW rfl hlen hjx ?_; intro v' w9 O9 hg9 hn9)
        clear c3 c4 c5
        have HO9 : Hid (w9.ownsRow jo 32 3 v' (K ++ [(false, lo, hi)]).length (lrow (K ++ [(false, lo, hi)]))) := O9
        have B9 := B.trans ((grown_belowK OW hg9 hjx).mono hjb)
        have V9 := V.kept hg9 (fun b h e => by have := (World.ownsRow.lt OW _ e.symm).1; omega)
        have hj9 : jo ≤ w9.heap.size := Nat.le_trans hjx hg9.size
        clear O9 OW hg9 hn9 B V hjx BZ
        go_wp2_with fail
        go_roundw
        case rel => exact ⟨k + 1, K ++ [(false, lo, hi)], HLT.out, HL2.out, by go_num, by rw [List.length_append]; simp; exact HK.out, HR.out, HO9.out, hj9, V9, B9⟩
        case measure => have hlt' := HLT.out; simp [intOf]; omega
      · have CO := fun w' => specIvalOk_any lo hi w'
        cases ho : okI lo hi
        · rw [ho] at CO
          obtain ⟨c3, c4, c5⟩ := LK.out wr (Below.refl _ _)
          have HR : Hid (allR K) := hR
          clear ho hR
          go_wp2_with fail
          refine (CO _).mono ?_
          rintro e wz ⟨rfl, hb⟩
          clear c3 c4 c5
          replace OW := own_belK' OW hb
          replace V := V.below hb
          replace B := B.trans (hb.mono B.size)
          replace hjs := Nat.le_trans hjs hb.size
          clear hb LK
          go_wp2_with fail
          go_roundw
          case rel => exact ⟨k + 1, K, HLT.out, HL2.out, by go_num, Nat.le_succ_of_le HK.out, HR.out, OW, hjs, V, B⟩
          case measure => have hlt' := HLT.out; simp [intOf]; omega
        · rw [ho] at CO
          obtain ⟨c3, c4, c5⟩ := LK.out wr (Below.refl _ _)
          have HR : Hid (allR (K ++ [(true, lo, hi)])) := allR_add hR (fun _ => ho)
          clear ho hR
          go_wp2_with fail
          refine (CO _).mono ?_
          rintro e wz ⟨rfl, BZ⟩
          clear c3 c4 c5
          replace OW := own_belK' OW BZ
          replace V := V.below BZ
          replace B := B.trans (BZ.mono B.size)
          have hjx := Nat.le_trans hjs BZ.size
          clear hjs CO
          obtain ⟨c3, c4, c5⟩ := LK.out wz BZ
          go_upto_region 7 with (at_builtin; refine add_look rfl _ _ rfl jo K _ rfl OW rfl hlen hjx ?_; intro v' w9 O9 hg9 hn9)
          clear c3 c4 c5
          have HO9 : Hid (w9.ownsRow jo 32 3 v' (K ++ [(true, lo, hi)]).length (lrow (K ++ [(true, lo, hi)]))) := O9
          have B9 := B.trans ((grown_belowK OW hg9 hjx).mono hjb)
          have V9 := V.kept hg9 (fun b h e => by have := (World.ownsRow.lt OW _ e.symm).1; omega)
          have hj9 : jo ≤ w9.heap.size := Nat.le_trans hjx hg9.size
          clear O9 OW hg9 hn9 B V hjx BZ
          go_wp2_with fail
          go_roundw
          case rel => exact ⟨k + 1, K ++ [(true, lo, hi)], HLT.out, HL2.out, by go_num, by rw [List.length_append]; simp; exact HK.out, HR.out, HO9.out, hj9, V9, B9⟩
          case measure => have hlt' := HLT.out; simp [intOf]; omega
    · have hK2 : K.length ≤ 200 := by omega
      obtain ⟨ak, ck, rfl, _, _, Q1⟩ := ownF_src OW
      have hM : ∀ i, i < K.length → (gK K i).1 = true → okI (gK K i).2.1 (gK K i).2.2 = true := hR
      clear OW hR hK V
      generalize gK K = M at *
      generalize hm : K.length = m at *
      clear hm
      have hmm : m ≤ maxLen := by unfold maxLen; omega
      have CA : ∀ (w' : World), SrcC w' ak (m * 3) (MFLook M) → Calls Try.prog 13 #[.agg #[.bool false, .int .i64 0], .slice ak m ck] w' fun e w2 => ∃ ga gc, e = .returned (.tuple #[.slice ga m gc, .agg #[.bool (anS M false 0 m).1, .int .i64 (anS M false 0 m).2]]) ∧ SrcC w2 ga (m * 3) (MFReading (gG (anR M false 0 m))) ∧ Below w'.heap.size w' w2 := by
        intro w' hs
        refine (implAppRun_any false 0 ak m ck M w' hmm hs).mono ?_
        rintro e w2 ⟨v, rfl, G0, hb⟩
        rw [anZ_t hK2] at G0 ⊢
        obtain ⟨ga, gc, rfl, _, _, Q2⟩ := ownF_src G0
        rw [anR_len] at Q2 ⊢
        exact ⟨ga, gc, rfl, Q2, hb⟩
      have HT : Hid (rkB M (gG (anR M false 0 m)) m m = true) := an_told hM hK2
      have HAP : Hid (apB (anS M false 0 m).1 (anS M false 0 m).2 = true) := an_left hM
      have HX : Hid (∀ k, k < m → ∀ (H : Bool) (T x : Int) (d : Bool) (c : Int), anS M false 0 k = (H, T) → gG (anR M false 0 m) k = (x, d, c) → ((c != 0) = true ∧ anS M false 0 (k + 1) = (H, T)) ∨ ((c != 0) = false ∧ anS M false 0 (k + 1) = (true, x) ∧ (H = true → T ≤ x))) := fun k hk H T x d c h1 h2 => an_next hM hk h1 h2
      have HZ : Hid (anS M false 0 0 = (false, 0)) := rfl
      generalize gG (anR M false 0 m) = G at *
      generalize anS M false 0 = SS at *
      clear hM
      generalize hs : SS m = s at *
      obtain ⟨HH, TT⟩ := s
      have HS : Hid (SS m = (HH, TT)) := hs
      clear hs
      have VK := SrcK.of Q1
      clear Q1
      by_cases hkn : k < n
      · have hi1 : (k : Int) < (n : Int) := by omega
        have hi2 : ¬ (k : Int) < (200 : Int) := by omega
        clear hlt hk hk2 hkn
        generalize wr = u0 at *
        go_wp2_with fail
        refine (CA _ VK.src).mono ?_
        rintro e u1 ⟨ga, gc, rfl, Q2, hb⟩
        replace VK := VK.below hb
        replace B := B.trans (hb.mono B.size)
        clear hb CA
        have NL := Below.nw u1 (.cells #[.bool HH, .int .i64 TT] 25)
        have Z := Bx2.new u1 (.bool HH) (.int .i64 TT) 25
        have VG := SrcK.of Q2
        clear Q2
        go_upto_region 11 with fail
        replace VK := VK.below NL
        replace VG := VG.below NL
        replace B := B.trans (NL.mono B.size)
        clear NL
        generalize u1.alloc (.cells #[.bool HH, .int .i64 TT] 25) = u2 at *
        generalize hj : u1.heap.size = jz at *
        clear hj
        have hmz : ((m : Int) != (m : Int)) = false := by simp
        go_wp2_with fail
        refine (implReadsOk_any _ _ m m _ _ M G _ hmm hmm VK.src VG.src).mono ?_
        rintro e u3 ⟨rfl, hb⟩
        rw [HT.out]
        replace Z := Z.below hb
        replace VG := VG.below hb
        replace B := B.trans (hb.mono B.size)
        clear hb VK HT
        obtain ⟨z0, z1, z2, z3, z4⟩ := id Z
        go_wp2_with fail
        refine (implAppOk_any HH TT _).mono ?_
        rintro e u4 ⟨rfl, hb⟩
        rw [HAP.out]
        clear z0 z1 z2 z3 z4 HAP
        replace Z := Z.below hb
        replace VG := VG.below hb
        replace B := B.trans (hb.mono B.size)
        clear hb hmz hmm
        go_wp2_with fail
        go_loopw [9, 10, 11] (fun s9 s10 i wr => ∃ (k : Nat) (H : Bool) (T : Int), k ≤ m ∧ i = .int .i64 k ∧ s9 = .bool H ∧ s10 = .int .i64 T ∧ SS k = (H, T) ∧ Bx2 wr jz (.bool HH) (.int .i64 TT) ∧ SrcK wr ga (m * 3) (MFReading G) jz ∧ Below w.heap.size w wr) (fun _ _ i _ => m - (intOf i).toNat)
        case atStart => exact ⟨0, false, 0, Nat.zero_le _, rfl, rfl, rfl, HZ.out, Z, VG, B⟩
        case round =>
          clear Z VG B hi1
          (try clear hi2)
          obtain ⟨k, H, T, hk, rfl, rfl, rfl, hS, Z, VG, B⟩ := hrel
          by_cases hlt : k < m
          · have hli : (k : Int) < (m : Int) := by omega
            obtain ⟨b, off, rfl, hbj, hf⟩ : ∃ b off, ga = some ⟨b, off, none⟩ ∧ b < jz ∧ Cs wr b off (m * 3) (MFReading G) := by
              rcases VG with q | q
              · exact absurd q (by omega)
              · exact q
            obtain ⟨x, d, c1, hR⟩ := tupReading G k
            obtain ⟨c3, c4, c5⟩ := hf.elReading hlt hR
            have HLT : Hid (k < m) := hlt
            rcases HX.out k hlt H T x d c1 hS hR with ⟨q1, q2⟩ | ⟨q1, q2, q3⟩
            · have HQ : Hid (SS (k + 1) = (H, T)) := q2
              clear hf hbj hR hS hlt q2 hk
              go_wp2_with fail
              go_roundw
              case rel => exact ⟨k + 1, H, T, HLT.out, by go_num, rfl, rfl, HQ.out, Z, VG, B⟩
              case measure => have hlt' := HLT.out; simp [intOf]; omega
            · have HQ : Hid (SS (k + 1) = (true, x)) := q2
              clear hf hbj hR hS hlt q2 hk
              cases H
              · clear q3
                go_upto_region 20 with fail
                refine wp_region_held_drew (S := (fun w' => w'.cell? ⟨b, off + k * 3, none⟩ = some (.int .i64 x) ∧ w'.cell? ⟨b, off + k * 3 + 1, none⟩ = some (.bool d) ∧ w'.cell? ⟨b, off + k * 3 + 2, none⟩ = some (.int .i64 c1))) (by kernel_rfl) ?_ (fun hHeld => ?_)
                · first | exact ⟨c3, c4, c5⟩ | exact ⟨c3, c4, c5⟩
                refine wpAnyH_take (i := 0) (v := ?_) (by rw [List.getElem?_toArray]; rfl) (by kernel_rfl) (by kernel_rfl) (by kernel_rfl) (by intro _ _ _ h; exact h) (Or.inl ⟨by rfl, ?_⟩) (by assumption) ?_
                rotate_left
                · (intro w hSw; (try dsimp only at hSw); go_simp; all_goals with_reducible rfl)
                (try simp only [Act.put, List.setIfInBounds_toArray, List.set_cons_zero, List.set_cons_succ])
                refine wpAnyH_take (i := 1) (v := ?_) (by rw [List.getElem?_toArray]; rfl) (by kernel_rfl) (by kernel_rfl) (by kernel_rfl) (by intro _ _ _ h; exact h) (Or.inl ⟨by rfl, ?_⟩) (by assumption) ?_
                rotate_left
                · (intro w hSw; (try dsimp only at hSw); go_simp; all_goals with_reducible rfl)
                (try simp only [Act.put, List.setIfInBounds_toArray, List.set_cons_zero, List.set_cons_succ])
                refine wpAnyH_take (i := 2) (v := ?_) (by rw [List.getElem?_toArray]; rfl) (by kernel_rfl) (by kernel_rfl) (by kernel_rfl) (by intro _ _ _ h; exact h) (Or.inl ⟨by rfl, ?_⟩) (by assumption) ?_
                rotate_left
                · (intro w hSw; (try dsimp only at hSw); go_simp; all_goals with_reducible rfl)
                (try simp only [Act.put, List.setIfInBounds_toArray, List.set_cons_zero, List.set_cons_succ])
                refine wpAnyH_take (i := 3) (v := ?_) (by rw [List.getElem?_toArray]; rfl) (by kernel_rfl) (by kernel_rfl) (by kernel_rfl) (by intro _ _ _ h; exact h) (Or.inl ⟨by rfl, ?_⟩) (by assumption) ?_
                rotate_left
                · (intro w hSw; (try dsimp only at hSw); go_simp; all_goals with_reducible rfl)
                (try simp only [Act.put, List.setIfInBounds_toArray, List.set_cons_zero, List.set_cons_succ])
                refine wpAnyH_take (i := 4) (v := ?_) (by rw [List.getElem?_toArray]; rfl) (by kernel_rfl) (by kernel_rfl) (by kernel_rfl) (by intro _ _ _ h; exact h) (Or.inl ⟨by rfl, ?_⟩) (by assumption) ?_
                rotate_left
                · (intro w hSw; (try dsimp only at hSw); go_simp; all_goals with_reducible rfl)
                (try simp only [Act.put, List.setIfInBounds_toArray, List.set_cons_zero, List.set_cons_succ])
                refine wpAnyH_take (i := 5) (v := ?_) (by rw [List.getElem?_toArray]; rfl) (by kernel_rfl) (by kernel_rfl) (by kernel_rfl) (by intro _ _ _ h; exact h) (Or.inl ⟨by rfl, ?_⟩) (by assumption) ?_
                rotate_left
                · (intro w hSw; (try dsimp only at hSw); go_simp; all_goals with_reducible rfl)
                (try simp only [Act.put, List.setIfInBounds_toArray, List.set_cons_zero, List.set_cons_succ])
                refine wpAnyH_take (i := 6) (v := ?_) (by rw [List.getElem?_toArray]; rfl) (by kernel_rfl) (by kernel_rfl) (by kernel_rfl) (by intro _ _ _ h; exact h) (Or.inl ⟨by rfl, ?_⟩) (by assumption) ?_
                rotate_left
                · (intro w hSw; (try dsimp only at hSw); go_simp; all_goals with_reducible rfl)
                (try simp only [Act.put, List.setIfInBounds_toArray, List.set_cons_zero, List.set_cons_succ])
                refine wpAnyH_done (by kernel_rfl) ?_ _
                go_wp2_with fail
                go_roundw
                case rel => exact ⟨k + 1, true, x, HLT.out, by go_num, rfl, rfl, HQ.out, Z.drew, VG, Below.drew B⟩
                case measure => have hlt' := HLT.out; simp [intOf]; omega
              · have hxT : ¬ x < T := by have := q3 rfl; omega
                clear q3
                go_upto_region 20 with fail
                refine wp_region_held_drew (S := (fun w' => w'.cell? ⟨b, off + k * 3, none⟩ = some (.int .i64 x) ∧ w'.cell? ⟨b, off + k * 3 + 1, none⟩ = some (.bool d) ∧ w'.cell? ⟨b, off + k * 3 + 2, none⟩ = some (.int .i64 c1))) (by kernel_rfl) ?_ (fun hHeld => ?_)
                · first | exact ⟨c3, c4, c5⟩ | exact ⟨c3, c4, c5⟩
                refine wpAnyH_take (i := 0) (v := ?_) (by rw [List.getElem?_toArray]; rfl) (by kernel_rfl) (by kernel_rfl) (by kernel_rfl) (by intro _ _ _ h; exact h) (Or.inl ⟨by rfl, ?_⟩) (by assumption) ?_
                rotate_left
                · (intro w hSw; (try dsimp only at hSw); go_simp; all_goals with_reducible rfl)
                (try simp only [Act.put, List.setIfInBounds_toArray, List.set_cons_zero, List.set_cons_succ])
                refine wpAnyH_take (i := 1) (v := ?_) (by rw [List.getElem?_toArray]; rfl) (by kernel_rfl) (by kernel_rfl) (by kernel_rfl) (by intro _ _ _ h; exact h) (Or.inl ⟨by rfl, ?_⟩) (by assumption) ?_
                rotate_left
                · (intro w hSw; (try dsimp only at hSw); go_simp; all_goals with_reducible rfl)
                (try simp only [Act.put, List.setIfInBounds_toArray, List.set_cons_zero, List.set_cons_succ])
                refine wpAnyH_take (i := 2) (v := ?_) (by rw [List.getElem?_toArray]; rfl) (by kernel_rfl) (by kernel_rfl) (by kernel_rfl) (by intro _ _ _ h; exact h) (Or.inl ⟨by rfl, ?_⟩) (by assumption) ?_
                rotate_left
                · (intro w hSw; (try dsimp only at hSw); go_simp; all_goals with_reducible rfl)
                (try simp only [Act.put, List.setIfInBounds_toArray, List.set_cons_zero, List.set_cons_succ])
                refine wpAnyH_take (i := 3) (v := ?_) (by rw [List.getElem?_toArray]; rfl) (by kernel_rfl) (by kernel_rfl) (by kernel_rfl) (by intro _ _ _ h; exact h) (Or.inl ⟨by rfl, ?_⟩) (by assumption) ?_
                rotate_left
                · (intro w hSw; (try dsimp only at hSw); go_simp; all_goals with_reducible rfl)
                (try simp only [Act.put, List.setIfInBounds_toArray, List.set_cons_zero, List.set_cons_succ])
                refine wpAnyH_take (i := 4) (v := ?_) (by rw [List.getElem?_toArray]; rfl) (by kernel_rfl) (by kernel_rfl) (by kernel_rfl) (by intro _ _ _ h; exact h) (Or.inl ⟨by rfl, ?_⟩) (by assumption) ?_
                rotate_left
                · (intro w hSw; (try dsimp only at hSw); go_simp; all_goals with_reducible rfl)
                (try simp only [Act.put, List.setIfInBounds_toArray, List.set_cons_zero, List.set_cons_succ])
                refine wpAnyH_take (i := 5) (v := ?_) (by rw [List.getElem?_toArray]; rfl) (by kernel_rfl) (by kernel_rfl) (by kernel_rfl) (by intro _ _ _ h; exact h) (Or.inl ⟨by rfl, ?_⟩) (by assumption) ?_
                rotate_left
                · (intro w hSw; (try dsimp only at hSw); go_simp; all_goals with_reducible rfl)
                (try simp only [Act.put, List.setIfInBounds_toArray, List.set_cons_zero, List.set_cons_succ])
                refine wpAnyH_take (i := 6) (v := ?_) (by rw [List.getElem?_toArray]; rfl) (by kernel_rfl) (by kernel_rfl) (by kernel_rfl) (by intro _ _ _ h; exact h) (Or.inl ⟨by rfl, ?_⟩) (by assumption) ?_
                rotate_left
                · (intro w hSw; (try dsimp only at hSw); go_simp; all_goals with_reducible rfl)
                (try simp only [Act.put, List.setIfInBounds_toArray, List.set_cons_zero, List.set_cons_succ])
                refine wpAnyH_done (by kernel_rfl) ?_ _
                go_wp2_with fail
                go_roundw
                case rel => exact ⟨k + 1, true, x, HLT.out, by go_num, rfl, rfl, HQ.out, Z.drew, VG, Below.drew B⟩
                case measure => have hlt' := HLT.out; simp [intOf]; omega
          · have hkm : k = m := by omega
            subst hkm
            have hli : ¬ (k : Int) < (k : Int) := by omega
            have e1 := hS.symm.trans HS.out
            obtain ⟨rfl, rfl⟩ := Prod.mk.inj e1
            clear e1 hS HS HX HZ VG hlt
            have hTT : (T == T) = true := by simp
            obtain ⟨z0, z1, z2, z3, z4⟩ := id Z
            cases H
            · go_wp2_with fail
              go_ret
              exact ⟨rfl, B⟩
            · go_wp2_with fail
              go_ret
              exact ⟨rfl, B⟩
      · have hi1 : ¬ (k : Int) < (n : Int) := by omega
        clear hlt hk hk2 hkn
        generalize wr = u0 at *
        go_wp2_with fail
        refine (CA _ VK.src).mono ?_
        rintro e u1 ⟨ga, gc, rfl, Q2, hb⟩
        replace VK := VK.below hb
        replace B := B.trans (hb.mono B.size)
        clear hb CA
        have NL := Below.nw u1 (.cells #[.bool HH, .int .i64 TT] 25)
        have Z := Bx2.new u1 (.bool HH) (.int .i64 TT) 25
        have VG := SrcK.of Q2
        clear Q2
        go_upto_region 11 with fail
        replace VK := VK.below NL
        replace VG := VG.below NL
        replace B := B.trans (NL.mono B.size)
        clear NL
        generalize u1.alloc (.cells #[.bool HH, .int .i64 TT] 25) = u2 at *
        generalize hj : u1.heap.size = jz at *
        clear hj
        have hmz : ((m : Int) != (m : Int)) = false := by simp
        go_wp2_with fail
        refine (implReadsOk_any _ _ m m _ _ M G _ hmm hmm VK.src VG.src).mono ?_
        rintro e u3 ⟨rfl, hb⟩
        rw [HT.out]
        replace Z := Z.below hb
        replace VG := VG.below hb
        replace B := B.trans (hb.mono B.size)
        clear hb VK HT
        obtain ⟨z0, z1, z2, z3, z4⟩ := id Z
        go_wp2_with fail
        refine (implAppOk_any HH TT _).mono ?_
        rintro e u4 ⟨rfl, hb⟩
        rw [HAP.out]
        clear z0 z1 z2 z3 z4 HAP
        replace Z := Z.below hb
        replace VG := VG.below hb
        replace B := B.trans (hb.mono B.size)
        clear hb hmz hmm
        go_wp2_with fail
        go_loopw [9, 10, 11] (fun s9 s10 i wr => ∃ (k : Nat) (H : Bool) (T : Int), k ≤ m ∧ i = .int .i64 k ∧ s9 = .bool H ∧ s10 = .int .i64 T ∧ SS k = (H, T) ∧ Bx2 wr jz (.bool HH) (.int .i64 TT) ∧ SrcK wr ga (m * 3) (MFReading G) jz ∧ Below w.heap.size w wr) (fun _ _ i _ => m - (intOf i).toNat)
        case atStart => exact ⟨0, false, 0, Nat.zero_le _, rfl, rfl, rfl, HZ.out, Z, VG, B⟩
        case round =>
          clear Z VG B hi1
          (try clear hi2)
          obtain ⟨k, H, T, hk, rfl, rfl, rfl, hS, Z, VG, B⟩ := hrel
          by_cases hlt : k < m
          · have hli : (k : Int) < (m : Int) := by omega
            obtain ⟨b, off, rfl, hbj, hf⟩ : ∃ b off, ga = some ⟨b, off, none⟩ ∧ b < jz ∧ Cs wr b off (m * 3) (MFReading G) := by
              rcases VG with q | q
              · exact absurd q (by omega)
              · exact q
            obtain ⟨x, d, c1, hR⟩ := tupReading G k
            obtain ⟨c3, c4, c5⟩ := hf.elReading hlt hR
            have HLT : Hid (k < m) := hlt
            rcases HX.out k hlt H T x d c1 hS hR with ⟨q1, q2⟩ | ⟨q1, q2, q3⟩
            · have HQ : Hid (SS (k + 1) = (H, T)) := q2
              clear hf hbj hR hS hlt q2 hk
              go_wp2_with fail
              go_roundw
              case rel => exact ⟨k + 1, H, T, HLT.out, by go_num, rfl, rfl, HQ.out, Z, VG, B⟩
              case measure => have hlt' := HLT.out; simp [intOf]; omega
            · have HQ : Hid (SS (k + 1) = (true, x)) := q2
              clear hf hbj hR hS hlt q2 hk
              cases H
              · clear q3
                go_upto_region 20 with fail
                refine wp_region_held_drew (S := (fun w' => w'.cell? ⟨b, off + k * 3, none⟩ = some (.int .i64 x) ∧ w'.cell? ⟨b, off + k * 3 + 1, none⟩ = some (.bool d) ∧ w'.cell? ⟨b, off + k * 3 + 2, none⟩ = some (.int .i64 c1))) (by kernel_rfl) ?_ (fun hHeld => ?_)
                · first | exact ⟨c3, c4, c5⟩ | exact ⟨c3, c4, c5⟩
                refine wpAnyH_take (i := 0) (v := ?_) (by rw [List.getElem?_toArray]; rfl) (by kernel_rfl) (by kernel_rfl) (by kernel_rfl) (by intro _ _ _ h; exact h) (Or.inl ⟨by rfl, ?_⟩) (by assumption) ?_
                rotate_left
                · (intro w hSw; (try dsimp only at hSw); go_simp; all_goals with_reducible rfl)
                (try simp only [Act.put, List.setIfInBounds_toArray, List.set_cons_zero, List.set_cons_succ])
                refine wpAnyH_take (i := 1) (v := ?_) (by rw [List.getElem?_toArray]; rfl) (by kernel_rfl) (by kernel_rfl) (by kernel_rfl) (by intro _ _ _ h; exact h) (Or.inl ⟨by rfl, ?_⟩) (by assumption) ?_
                rotate_left
                · (intro w hSw; (try dsimp only at hSw); go_simp; all_goals with_reducible rfl)
                (try simp only [Act.put, List.setIfInBounds_toArray, List.set_cons_zero, List.set_cons_succ])
                refine wpAnyH_take (i := 2) (v := ?_) (by rw [List.getElem?_toArray]; rfl) (by kernel_rfl) (by kernel_rfl) (by kernel_rfl) (by intro _ _ _ h; exact h) (Or.inl ⟨by rfl, ?_⟩) (by assumption) ?_
                rotate_left
                · (intro w hSw; (try dsimp only at hSw); go_simp; all_goals with_reducible rfl)
                (try simp only [Act.put, List.setIfInBounds_toArray, List.set_cons_zero, List.set_cons_succ])
                refine wpAnyH_take (i := 3) (v := ?_) (by rw [List.getElem?_toArray]; rfl) (by kernel_rfl) (by kernel_rfl) (by kernel_rfl) (by intro _ _ _ h; exact h) (Or.inl ⟨by rfl, ?_⟩) (by assumption) ?_
                rotate_left
                · (intro w hSw; (try dsimp only at hSw); go_simp; all_goals with_reducible rfl)
                (try simp only [Act.put, List.setIfInBounds_toArray, List.set_cons_zero, List.set_cons_succ])
                refine wpAnyH_take (i := 4) (v := ?_) (by rw [List.getElem?_toArray]; rfl) (by kernel_rfl) (by kernel_rfl) (by kernel_rfl) (by intro _ _ _ h; exact h) (Or.inl ⟨by rfl, ?_⟩) (by assumption) ?_
                rotate_left
                · (intro w hSw; (try dsimp only at hSw); go_simp; all_goals with_reducible rfl)
                (try simp only [Act.put, List.setIfInBounds_toArray, List.set_cons_zero, List.set_cons_succ])
                refine wpAnyH_take (i := 5) (v := ?_) (by rw [List.getElem?_toArray]; rfl) (by kernel_rfl) (by kernel_rfl) (by kernel_rfl) (by intro _ _ _ h; exact h) (Or.inl ⟨by rfl, ?_⟩) (by assumption) ?_
                rotate_left
                · (intro w hSw; (try dsimp only at hSw); go_simp; all_goals with_reducible rfl)
                (try simp only [Act.put, List.setIfInBounds_toArray, List.set_cons_zero, List.set_cons_succ])
                refine wpAnyH_take (i := 6) (v := ?_) (by rw [List.getElem?_toArray]; rfl) (by kernel_rfl) (by kernel_rfl) (by kernel_rfl) (by intro _ _ _ h; exact h) (Or.inl ⟨by rfl, ?_⟩) (by assumption) ?_
                rotate_left
                · (intro w hSw; (try dsimp only at hSw); go_simp; all_goals with_reducible rfl)
                (try simp only [Act.put, List.setIfInBounds_toArray, List.set_cons_zero, List.set_cons_succ])
                refine wpAnyH_done (by kernel_rfl) ?_ _
                go_wp2_with fail
                go_roundw
                case rel => exact ⟨k + 1, true, x, HLT.out, by go_num, rfl, rfl, HQ.out, Z.drew, VG, Below.drew B⟩
                case measure => have hlt' := HLT.out; simp [intOf]; omega
              · have hxT : ¬ x < T := by have := q3 rfl; omega
                clear q3
                go_upto_region 20 with fail
                refine wp_region_held_drew (S := (fun w' => w'.cell? ⟨b, off + k * 3, none⟩ = some (.int .i64 x) ∧ w'.cell? ⟨b, off + k * 3 + 1, none⟩ = some (.bool d) ∧ w'.cell? ⟨b, off + k * 3 + 2, none⟩ = some (.int .i64 c1))) (by kernel_rfl) ?_ (fun hHeld => ?_)
                · first | exact ⟨c3, c4, c5⟩ | exact ⟨c3, c4, c5⟩
                refine wpAnyH_take (i := 0) (v := ?_) (by rw [List.getElem?_toArray]; rfl) (by kernel_rfl) (by kernel_rfl) (by kernel_rfl) (by intro _ _ _ h; exact h) (Or.inl ⟨by rfl, ?_⟩) (by assumption) ?_
                rotate_left
                · (intro w hSw; (try dsimp only at hSw); go_simp; all_goals with_reducible rfl)
                (try simp only [Act.put, List.setIfInBounds_toArray, List.set_cons_zero, List.set_cons_succ])
                refine wpAnyH_take (i := 1) (v := ?_) (by rw [List.getElem?_toArray]; rfl) (by kernel_rfl) (by kernel_rfl) (by kernel_rfl) (by intro _ _ _ h; exact h) (Or.inl ⟨by rfl, ?_⟩) (by assumption) ?_
                rotate_left
                · (intro w hSw; (try dsimp only at hSw); go_simp; all_goals with_reducible rfl)
                (try simp only [Act.put, List.setIfInBounds_toArray, List.set_cons_zero, List.set_cons_succ])
                refine wpAnyH_take (i := 2) (v := ?_) (by rw [List.getElem?_toArray]; rfl) (by kernel_rfl) (by kernel_rfl) (by kernel_rfl) (by intro _ _ _ h; exact h) (Or.inl ⟨by rfl, ?_⟩) (by assumption) ?_
                rotate_left
                · (intro w hSw; (try dsimp only at hSw); go_simp; all_goals with_reducible rfl)
                (try simp only [Act.put, List.setIfInBounds_toArray, List.set_cons_zero, List.set_cons_succ])
                refine wpAnyH_take (i := 3) (v := ?_) (by rw [List.getElem?_toArray]; rfl) (by kernel_rfl) (by kernel_rfl) (by kernel_rfl) (by intro _ _ _ h; exact h) (Or.inl ⟨by rfl, ?_⟩) (by assumption) ?_
                rotate_left
                · (intro w hSw; (try dsimp only at hSw); go_simp; all_goals with_reducible rfl)
                (try simp only [Act.put, List.setIfInBounds_toArray, List.set_cons_zero, List.set_cons_succ])
                refine wpAnyH_take (i := 4) (v := ?_) (by rw [List.getElem?_toArray]; rfl) (by kernel_rfl) (by kernel_rfl) (by kernel_rfl) (by intro _ _ _ h; exact h) (Or.inl ⟨by rfl, ?_⟩) (by assumption) ?_
                rotate_left
                · (intro w hSw; (try dsimp only at hSw); go_simp; all_goals with_reducible rfl)
                (try simp only [Act.put, List.setIfInBounds_toArray, List.set_cons_zero, List.set_cons_succ])
                refine wpAnyH_take (i := 5) (v := ?_) (by rw [List.getElem?_toArray]; rfl) (by kernel_rfl) (by kernel_rfl) (by kernel_rfl) (by intro _ _ _ h; exact h) (Or.inl ⟨by rfl, ?_⟩) (by assumption) ?_
                rotate_left
                · (intro w hSw; (try dsimp only at hSw); go_simp; all_goals with_reducible rfl)
                (try simp only [Act.put, List.setIfInBounds_toArray, List.set_cons_zero, List.set_cons_succ])
                refine wpAnyH_take (i := 6) (v := ?_) (by rw [List.getElem?_toArray]; rfl) (by kernel_rfl) (by kernel_rfl) (by kernel_rfl) (by intro _ _ _ h; exact h) (Or.inl ⟨by rfl, ?_⟩) (by assumption) ?_
                rotate_left
                · (intro w hSw; (try dsimp only at hSw); go_simp; all_goals with_reducible rfl)
                (try simp only [Act.put, List.setIfInBounds_toArray, List.set_cons_zero, List.set_cons_succ])
                refine wpAnyH_done (by kernel_rfl) ?_ _
                go_wp2_with fail
                go_roundw
                case rel => exact ⟨k + 1, true, x, HLT.out, by go_num, rfl, rfl, HQ.out, Z.drew, VG, Below.drew B⟩
                case measure => have hlt' := HLT.out; simp [intOf]; omega
          · have hkm : k = m := by omega
            subst hkm
            have hli : ¬ (k : Int) < (k : Int) := by omega
            have e1 := hS.symm.trans HS.out
            obtain ⟨rfl, rfl⟩ := Prod.mk.inj e1
            clear e1 hS HS HX HZ VG hlt
            have hTT : (T == T) = true := by simp
            obtain ⟨z0, z1, z2, z3, z4⟩ := id Z
            cases H
            · go_wp2_with fail
              go_ret
              exact ⟨rfl, B⟩
            · go_wp2_with fail
              go_ret
              exact ⟨rfl, B⟩
end Go.Proofs.Ytdllkfllnljaaaa
