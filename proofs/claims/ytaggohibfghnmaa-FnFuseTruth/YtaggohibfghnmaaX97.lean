/- The contract of the turns of the cover, told by a function. -/
import Derived.Test.YtaggohibfghnmaaX96
import Derived.Test.YtaggohibfghnmaaY90
import Derived.RangeFuncBox
import Derived.RangeFuncNested
import Derived.RangeFuncBound
import Derived.RangeFuncCalls
import Derived.RangeFuncLeaves
import Derived.Shelf.Abstract
import Derived.Shelf.RegionOpen
import Derived.OwnWalkIn
import Derived.TacticsInMore
import Derived.LoopNIn
import Derived.LoopIn
import Derived.Maps.OwnIn
import Derived.WalkKit
import Derived.WalkSpells
import Derived.WalkLawsBesides
import Derived.Deep.RegionHeld
namespace Go.Proofs.Ytaggohibfghnmaa
open Go.RowKit
set_option linter.unusedVariables false
open Go.Maps Go.Sort Go.Shelf
attribute [local go_sem] Oper.semAt_some
theorem sortsN (m : Nat) : AnyZI.SortsIn Try.prog sortedA_ren Fence.wide m :=
  ⟨fun blk off cap ss W hH hblk hsz => callsIn_wide.2 (AnyM.slices_Sort_int sortA blk off cap ss W hH hblk hsz),
   fun p cap W => callsIn_wide.2 (AnyM.slices_Sort_int_none sortA p cap W)⟩
/- A turn: its place and how many hold from there, both within their limits. -/
abbrev TP := { p : Int × Int // (-1000000000000 ≤ p.1 ∧ p.1 ≤ 1000000000001) ∧ 0 ≤ p.2 ∧ p.2 ≤ 12 }
def vals (xs : List TP) : List (Int × Int) := xs.map fun x => x.1
theorem vals_add (pre : List TP) (x : TP) : vals (pre ++ [x]) = vals pre ++ [x.1] := by simp [vals]
theorem vals_len (xs : List TP) : (vals xs).length = xs.length := by simp [vals]
theorem own_shape {w : World} {base : Nat} {T : TypeId} {s : Nat} {v : Value} {n : Nat} {xs : List Value} (h : w.ownsRow base T s v n xs) : ∃ a c, v = .slice a n c ∧ (0 < n → ∃ g, a = some ⟨g, 0, none⟩) := by
  rcases h.2 with ⟨rfl, rfl⟩ | ⟨g, cap, _, rfl, _⟩
  · exact ⟨none, 0, rfl, fun h => absurd h (Nat.lt_irrefl _)⟩
  · exact ⟨_, cap, rfl, fun _ => ⟨g, rfl⟩⟩
/- The map is filled: what lies behind the first loop. -/
set_option maxRecDepth 100000 in
set_option maxHeartbeats 4000000 in
theorem turns_in (l Bn B0 : Nat) (a : Option Addr) (n c : Nat) (f : Nat → Int × Int) (xs : List TP) (J Jx : List TP → World → Prop) (W : World)
    (hn : n ≤ 12) (ho : allOk f n = true) (hxs : vals xs = trs f n) (hJ : AbidesFrom W.heap.size J)
    (hY : ∀ pre x W1, J pre W1 → pre.length < xs.length → YieldAt Fence.wide 5 Try.prog l #[.int .i64 x.1.1, .int .i64 x.1.2] W1 fun e W' => (e = .returned (.bool true) ∧ J (pre ++ [x]) W' ∧ Kp9 B0 W1 W') ∨ (e = .returned (.bool false) ∧ Jx (pre ++ [x]) W'))
    (hB0 : B0 ≤ W.heap.size) (hBn : W.cell? ⟨Bn, 0, none⟩ = some (.slice a n c)) (hBl : Bn < W.heap.size) (hs : Src W a n f) (h0 : J [] W) :
    CallsIn Fence.wide 6 Try.prog 63 #[.func (.yield l) #[] #[], .pointer (some ⟨Bn, 0, none⟩)] W fun e W' => (∃ v, e = .returned v) ∧ ((∃ ys, ys = xs ∧ J ys W') ∨ (∃ pre, pre <+: xs ∧ Jx pre W')) := by
  have HS : Hid (Src W a n f) := hs
  have HO : Hid (∀ i, i < n → okI (f i).1 (f i).2 = true) := allOk_at ho
  have HT : Hid (allOk f n = true) := ho
  have HX : Hid (vals xs = trs f n) := hxs
  have HJ : Hid (AbidesFrom W.heap.size J) := hJ
  have HJ0 : Hid (J [] W) := h0
  have HY : Hid (∀ pre x W1, J pre W1 → pre.length < xs.length → YieldAt Fence.wide 5 Try.prog l #[.int .i64 x.1.1, .int .i64 x.1.2] W1 fun e W' => (e = .returned (.bool true) ∧ J (pre ++ [x]) W' ∧ Kp9 B0 W1 W') ∨ (e = .returned (.bool false) ∧ Jx (pre ++ [x]) W')) := hY
  have hmm := fun (W : World) => run_mkmapN (2 * (n : Int)) W
  have M0 : MapN (W.alloc (.map #[] 0)) W.heap.size (2 * 0) (Fm f 0) := (MapN.made W).congr (fun x => by simp [Fm, trn])
  have BA := Below.al9 W (.map #[] 0)
  clear hs ho hxs hJ h0 hY
  refine callsIn_of_wp Try.func63 rfl trivial ?_ rfl
  simp only [Try.ntmps63, List.size_toArray, List.length_cons, List.length_nil, Nat.reduceAdd, Nat.reduceSub, Array.replicate_succ, Array.replicate_zero, List.push_toArray, List.append_toArray, List.nil_append, List.cons_append]
  gi_wp2
  clear hmm
  gi_loopw [15] (fun i wr => ∃ k : Nat, k ≤ n ∧ i = .int .i64 k ∧ MapN wr W.heap.size (2 * k) (Fm f k) ∧ Below W.heap.size W wr) (fun i _ => n - (intOf i).toNat)
  case atStart => exact ⟨0, Nat.zero_le _, rfl, M0, BA⟩
  case round =>
    obtain ⟨k, hk, rfl, MP, B⟩ := hrel
    clear M0 BA
    by_cases hlt : k < n
    · have hli : (k : Int) < (n : Int) := by omega
      rcases HS.out.below B with h0 | ⟨b, off, rfl, hp⟩
      · omega
      have c0 : wr.cell? ⟨b, off + k * 2, none⟩ = some (.int .i64 (f k).1) := (hp.2 k hlt).1
      have c1 : wr.cell? ⟨b, off + k * 2 + 1, none⟩ = some (.int .i64 (f k).2) := (hp.2 k hlt).2
      obtain ⟨o1, o2, o3⟩ := okI_t (HO.out k hlt)
      have FS := Fm_step (f := f) (i := k) o1
      have HFS : Hid (∀ y, (if y = (f k).2 + 1 then some (chg f k ((f k).2 + 1) - 1) else if y = (f k).1 then some (chg f k (f k).1 + 1) else Fm f k y) = Fm f (k + 1) y) := FS
      have g1 := Fm_get f k (f k).1
      have g2 := Fm_get f k ((f k).2 + 1)
      have i1 := chg_in f (f k).1 k
      have i2 := chg_in f ((f k).2 + 1) k
      clear hp FS
      generalize chg f k (f k).1 = y1 at *
      generalize chg f k ((f k).2 + 1) = y2 at *
      generalize (f k).1 = lo at *
      generalize (f k).2 = hi at *
      have A := Below.al9 wr (.cells #[.int .i64 lo, .int .i64 hi] 25)
      have M1 := MP.below A
      have B1 := B.trans (A.mono B.size)
      have hwb : W.heap.size < wr.heap.size := MP.lt
      have n0 : (wr.alloc (.cells #[.int .i64 lo, .int .i64 hi] 25)).cell? ⟨wr.heap.size, 0, none⟩ = some (.int .i64 lo) := by simp
      have n1 : (wr.alloc (.cells #[.int .i64 lo, .int .i64 hi] 25)).cell? ⟨wr.heap.size, 1, none⟩ = some (.int .i64 hi) := by simp
      have hsz1 : wr.heap.size < (wr.alloc (.cells #[.int .i64 lo, .int .i64 hi] 25)).heap.size := by simp
      have l1 := M1.look (x := lo) (wf_in9 (by omega) (by omega))
      rw [g1] at l1
      obtain ⟨w2, r2, M2, gr2⟩ := M1.put (x := lo) (wf_in9 (by omega) (by omega)) (by unfold maxLen; omega) (y1 + 1)
      have l2 := M2.look (x := hi + 1) (wf_in9 (by omega) (by omega))
      rw [if_neg (by omega), g2] at l2
      obtain ⟨w3, r3, M3, gr3⟩ := M2.put (x := hi + 1) (wf_in9 (by omega) (by omega)) (by unfold maxLen; omega) (y2 - 1)
      have m1 : w2.cell? ⟨wr.heap.size, 1, none⟩ = some (.int .i64 hi) := by
        have := gr2.block wr.heap.size hsz1 (by simp; omega)
        rw [← n1]; simp only [World.cell?, this]
      have B3 : Below W.heap.size W w3 := (B1.grown gr2 B1.size (fun j e => by cases e; exact Nat.le_refl _)).grown gr3 (Nat.le_trans B1.size gr2.size) (fun j e => by cases e; exact Nat.le_refl _)
      have M4 := M3.congr HFS.out
      clear M3 M2 M1 B1 B MP A HFS g1 g2 gr2 gr3
      gi_wp2
      go_roundw
      case rel => exact ⟨k + 1, by omega, by go_num, M4, B3⟩
      case measure => simp [intOf]; omega
    · have hkn : k = n := by omega
      subst hkn
      have hli : ¬ (k : Int) < (k : Int) := by omega
      obtain ⟨D, hown, hperm, hszD⟩ := MP.keys (trn_asc f (2 * k)) (Fm_keys f k)
      have hTl := trn_len f (2 * k)
      have HQ : Hid (∀ ss : List Int, ss.Perm (intKeys D) → ss.length = (trn f (2 * k)).length ∧ (ss.mergeSort (fun x y => decide (x ≤ y))).map encZ = itL (trn f (2 * k))) := fun ss hs => by
        refine ⟨(hs.trans hperm.symm).length_eq, ?_⟩
        rw [sorted_asc (trn_asc f (2 * k)) hs hperm]
        rfl
      have HA : Hid (∀ j, j < (trn f (2 * k)).length → smC (chg f k) ((trn f (2 * k)).take (j + 1)) = (cov f k (iat (trn f (2 * k)) j) : Int)) := fun j hj => trn_sum HT.out hj
      have HG : Hid (∀ x, (Fm f k x).getD 0 = chg f k x) := Fm_get f k
      have HC : Hid (∀ x, -(k : Int) ≤ chg f k x ∧ chg f k x ≤ (k : Int)) := fun x => chg_in f x k
      have HCL : Hid (∀ x, cov f k x ≤ k) := fun x => cov_le f x k
      have HI : Hid (∀ x, x ∈ trn f (2 * k) → -1000000000000 ≤ x ∧ x ≤ 1000000000001) := fun x hx => trn_in HT.out hx
      have HXV : Hid (vals xs = (trn f (2 * k)).map fun p => (p, (cov f k p : Int))) := HX.out
      clear hperm HX HT HS HO
      generalize wr = V at *
      have hbl := hown.lt
      have hseq : SeqGives Fence.wide 2 Try.prog 68 #[.pointer (some ⟨V.heap.size, 0, none⟩)] encZ (fun ss => ss.Perm (intKeys D)) (Maps.size D) (V.alloc (.cells #[.map (some W.heap.size)] 79)) :=
        AnyZI.keys_gives (ρ := keysA_ren) { keysA with } Fence.wide _ trivial rfl (by omega) V.heap.size W.heap.size (2 * k) D _ (by simp) (by simp) (by
          obtain ⟨es, clock, hb, Ft, hs, hD⟩ := hown
          exact ⟨es, clock, (Below.heap_alloc _ _ _ hbl).trans hb, Ft, hs, hD⟩)
      have cK : ∀ mb W, CallsIn Fence.wide 5 Try.prog 65 #[.map mb] W fun e w' => e = .returned (.func (.func 68) #[] #[.pointer (some ⟨W.heap.size, 0, none⟩)]) ∧ w' = W.alloc (.cells #[.map mb] 79) := fun mb W => AnyZI.keys_in keysA Fence.wide 5 trivial rfl mb W
      have cS := AnyZI.sorted_in sortedA Fence.wide 5 trivial trivial trivial trivial rfl (by omega) (sortsN _) (enters_of Try.func67 (by kernel_rfl) rfl) 68 #[.pointer (some ⟨V.heap.size, 0, none⟩)] trivial (enters_of Try.func68 (by kernel_rfl) rfl) _ _ (by rw [hszD]; unfold maxLen; omega) (by rw [hszD]; omega) _ hseq
      change CallsIn _ _ Try.prog 64 _ _ _ at cS
      have hfK : Fence.wide.fn 65 := trivial
      have hfS : Fence.wide.fn 64 := trivial
      have HMP : Hid (MapN V W.heap.size (2 * k) (Fm f k)) := MP
      have AV := Below.al9 V (.cells #[.map (some W.heap.size)] 79)
      have hsV : V.heap.size < (V.alloc (.cells #[.map (some W.heap.size)] 79)).heap.size := by simp
      clear hown hseq hszD MP
      generalize hT : trn f (2 * k) = T at *
      gi_wp2_with (first
        | (gi_at_call 65; refine (cK _ _).mono ?_; rintro e w' ⟨rfl, rfl⟩)
        | (gi_at_call 64; refine cS.mono ?_; rintro e w9 ⟨v, ss, rfl, hS, hrow, hnil, hb9⟩; obtain ⟨e1, e2⟩ := HQ.out ss hS; (rw [e1, e2] at hrow); (have hr9 := ownsRow_base_a hrow (show V.heap.size ≤ _ by simp)); (have B9 := B.trans (AV.mono B.size)); (have B9' := B9.trans (hb9.mono B9.size)); (have M9 := (HMP.out.below AV).below hb9); obtain ⟨aV, cV, rfl, hgV⟩ := own_shape hr9; clear hrow hnil e1 e2 hS hb9 B9))
      have J9 : J [] w9 := HJ.out [] W w9 none HJ0.out ⟨B9'.os, B9'.tape, B9'.output, B9'.size, fun q hq _ => B9'.block q hq⟩ (fun r e => by cases e)
      have hBV : B0 ≤ V.heap.size := by omega
      have hB0w : B0 ≤ W.heap.size := hB0
      have hJ9' : J (xs.take 0) w9 := by simpa using J9
      clear J9 cK cS B9' AV HMP hsV HJ HJ0 B
      have hvl : xs.length = T.length := by have := congrArg List.length HXV.out; rw [vals_len] at this; simpa using this
      gi_loopw [6, 35] (fun s i wr => ∃ j : Nat, j ≤ T.length ∧ s = .int .i64 (smC (chg f k) (T.take j)) ∧ i = .int .i64 j ∧ wr.ownsRow V.heap.size 3 1 (.slice aV T.length cV) T.length (itL T) ∧ MapN wr W.heap.size (2 * k) (Fm f k) ∧ J (xs.take j) wr) (fun _ i _ => T.length - (intOf i).toNat)
      case atStart => exact ⟨0, Nat.zero_le _, rfl, rfl, hr9, M9, hJ9'⟩
      case round =>
        obtain ⟨j, hj, rfl, rfl, OR, MR, hJr⟩ := hrel
        clear hr9 M9 hJ9'
        by_cases hlt : j < T.length
        · obtain ⟨g, rfl⟩ := hgV (by omega)
          have hli2 : (j : Int) < (T.length : Int) := by omega
          have c0 := own_iat OR (i := j) hlt
          have hxl : j < xs.length := by omega
          have hmem : iat T j ∈ T := by unfold iat; rw [List.getD_eq_getElem?_getD, List.getElem?_eq_getElem hlt]; exact List.getElem_mem hlt
          have hin := HI.out _ hmem
          have hl1 := MR.look (x := iat T j) (wf_in9 (by omega) (by omega))
          rw [HG.out] at hl1
          have hsum := HA.out j hlt
          have hsum2 : smC (chg f k) (T.take (j + 1)) = smC (chg f k) (T.take j) + chg f k (iat T j) := by
            rw [take_add T hlt 0]; simp [smC, iat]
          have hcl := HCL.out (iat T j)
          have hci := HC.out (iat T j)
          have ex : (xs[j]).1 = (iat T j, (cov f k (iat T j) : Int)) := by
            have h2 : (vals xs)[j]? = some (xs[j]).1 := by simp [vals, hxl]
            rw [HXV.out] at h2
            simp [hlt] at h2
            rw [← h2]; simp [iat, hlt]
          have etk : xs.take (j + 1) = xs.take j ++ [xs[j]] := by rw [List.take_add_one, List.getElem?_eq_getElem hxl]; rfl
          obtain ⟨fn, tmps, assign, body, hy, hR⟩ := HY.out (xs.take j) xs[j] wr hJr (by simp; omega)
          rw [ex] at hy
          dsimp only at hy
          rw [← etk] at hR
          have hpre : xs.take (j + 1) <+: xs := List.take_prefix _ _
          have E1 : smC (chg f k) (T.take j) + chg f k (iat T j) = (cov f k (iat T j) : Int) := by rw [← hsum2]; exact hsum
          have E2 : Hid (smC (chg f k) (T.take (j + 1)) = (cov f k (iat T j) : Int)) := hsum
          clear hsum hsum2 ex etk hmem
          generalize smC (chg f k) (T.take j) = s0 at *
          generalize chg f k (iat T j) = y0 at *
          generalize (cov f k (iat T j)) = cv at *
          generalize hp0 : iat T j = p0 at *
          clear hp0
          have hs0 : s0 = (cv : Int) - y0 := by omega
          clear E1
          subst hs0
          have E3 : (cv : Int) - y0 + y0 = (cv : Int) := by omega
          gi_wp2
          refine hR.mono ?_
          rintro e W3 (⟨rfl, hJ3, hk3⟩ | ⟨rfl, hJx3⟩)
          · have OR3 := hk3.row hBV OR
            have MR3 := hk3.map hB0w MR
            gi_wp2
            go_roundw
            case rel => exact ⟨j + 1, by omega, by rw [E2.out], by go_num, OR3, MR3, hJ3⟩
            case measure => simp [intOf]; omega
          · gi_wp2
            refine bodyPost_ret (results_none rfl _ _ _) rfl ?_
            exact ⟨⟨_, rfl⟩, .inr ⟨_, hpre, hJx3⟩⟩
        · have hli2 : ¬ (j : Int) < (T.length : Int) := by omega
          have hall : xs.take j = xs := List.take_of_length_le (by omega)
          rw [hall] at hJr
          gi_wp2
          go_end0
          exact ⟨⟨_, rfl⟩, .inl hJr⟩
set_option maxHeartbeats 1000000 in
theorem turns_of (a : Option Addr) (n c d : Nat) (w : World) :
    CallsIn Fence.wide d Try.prog 61 #[.slice a n c] w fun e w' => e = .returned (.func (.func 63) #[] #[.pointer (some ⟨w.heap.size, 0, none⟩)]) ∧ w' = w.alloc (.cells #[.slice a n c] 26) := by
  refine callsIn_of_wp Try.func61 rfl trivial ?_ rfl
  simp only [Try.ntmps61, List.size_toArray, List.length_cons, List.length_nil, Nat.reduceAdd, Nat.reduceSub, Array.replicate_succ, Array.replicate_zero, List.push_toArray, List.append_toArray, List.nil_append, List.cons_append]
  gi_wp2
  go_ret
  exact ⟨rfl, rfl⟩
theorem turns_stops (Bn B0 : Nat) (a : Option Addr) (n c : Nat) (f : Nat → Int × Int) (xs : List TP) (w : World) (hn : n ≤ 12) (ho : allOk f n = true) (hxs : vals xs = trs f n) (hB0 : B0 ≤ w.heap.size)
    (hBn : w.cell? ⟨Bn, 0, none⟩ = some (.slice a n c)) (hBl : Bn < w.heap.size) (hs : Src w a n f) :
    SeqStopsK Fence.wide 6 Try.prog 63 #[.pointer (some ⟨Bn, 0, none⟩)] (fun x : TP => #[Value.int .i64 x.1.1, Value.int .i64 x.1.2]) (Kp9 B0) (fun ys => ys = xs) (fun pre => pre <+: xs) xs.length w := fun l J Jx W hW hJ _ hY h0 =>
  turns_in l Bn B0 a n c f xs J Jx W hn ho hxs hJ hY (Nat.le_trans hB0 hW.size) ((hW.cell (p := ⟨Bn, 0, none⟩) hBl).trans hBn) (Nat.lt_of_lt_of_le hBl hW.size) (hs.below hW) h0
theorem turns_have {f : Nat → Int × Int} {n : Nat} (hn : n ≤ 12) (ho : allOk f n = true) : ∃ xs : List TP, vals xs = trs f n := by
  have : ∀ L : List (Int × Int), (∀ x, x ∈ L → (-1000000000000 ≤ x.1 ∧ x.1 ≤ 1000000000001) ∧ 0 ≤ x.2 ∧ x.2 ≤ 12) → ∃ xs : List TP, vals xs = L := by
    intro L
    induction L with
    | nil => intro _; exact ⟨[], rfl⟩
    | cons y l ih =>
      intro h
      obtain ⟨xs, hx⟩ := ih (fun x hx => h x (List.mem_cons_of_mem _ hx))
      exact ⟨⟨y, h y List.mem_cons_self⟩ :: xs, by simp [vals] at hx ⊢; exact hx⟩
  refine this _ (fun x hx => ?_)
  obtain ⟨p, hp, rfl⟩ := List.mem_map.1 hx
  have := cov_le f p n
  exact ⟨trn_in ho hp, by simp only; omega, by simp only; omega⟩
end Go.Proofs.Ytaggohibfghnmaa
