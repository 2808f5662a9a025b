/- The walk of FnNonces. -/
import Derived.Test.YtlaladalnbdhpaaT79
import Derived.Test.YtlaladalnbdhpaaK1
import Derived.Deep.RegionHeld3
import Derived.Deep.DeepCutAuto
import Derived.WalkKit
import Derived.WalkSpells
import Derived.WalkLawsBesides
import Derived.Deep.RegionHeld
namespace Go.Proofs.Ytlaladalnbdhpaa
open Go.RowKit
set_option linter.unusedVariables false
/- What `at` reads is one number for each place, whatever lies beyond the code. -/
set_option maxHeartbeats 400000 in
theorem at_val (a : Option Addr) (n c B : Nat) (w : World) (hn : n ≤ 1048576) (hcode : CodeB w B a n) :
    ∃ g : Nat → Int, (∀ i, 0 ≤ g i ∧ g i ≤ 255) ∧ ∀ (v : World), Below B w v → ∀ (i : Nat) (j : Int), i ≤ 1000 → j = (i : Int) →
      Calls Try.prog 5 #[.slice a n c, .int .i64 j] v fun e w' => e = .returned (.int .i64 (g i)) ∧ v = w' := by
  have hex : ∀ i : Nat, ∃ z : Int, (0 ≤ z ∧ z ≤ 255) ∧ (i < n → ∃ b off, a = some ⟨b, off, none⟩ ∧ b < B ∧ w.cell? ⟨b, off + i, none⟩ = some (.int .u8 z)) ∧ (¬ i < n → z = ((i : Int) * 7 + n) % 256) := fun i => by
    by_cases h : i < n
    · rcases hcode with h0 | ⟨b, off, ha, hb, hz⟩
      · omega
      · obtain ⟨z, h1, h2, h3⟩ := hz i h
        exact ⟨z, ⟨h2, h3⟩, fun _ => ⟨b, off, ha, hb, h1⟩, fun h9 => absurd h h9⟩
    · exact ⟨_, ⟨Int.emod_nonneg _ (by omega), by have := Int.emod_lt_of_pos ((i : Int) * 7 + n) (b := 256) (by omega); omega⟩, fun h9 => absurd h9 h, fun _ => rfl⟩
  refine ⟨fun i => Classical.choose (hex i), fun i => (Classical.choose_spec (hex i)).1, fun v hv i j hi hj => ?_⟩
  subst hj
  obtain ⟨h1, h2, h3⟩ := Classical.choose_spec (hex i)
  dsimp only
  generalize Classical.choose (hex i) = z at *
  clear hex hcode
  by_cases h : i < n
  · have hd : (i : Int) < (n : Int) := by omega
    obtain ⟨b, off, rfl, hb, hz⟩ := h2 h
    have hz' : v.cell? ⟨b, off + i, none⟩ = some (.int .u8 z) := (hv.cell (p := ⟨b, off + i, none⟩) hb).trans hz
    clear h2 h3 hv hz
    go_enter Try.func5, Try.ntmps5
    go_wp2_with fail
    go_ret
    exact ⟨rfl, rfl⟩
  · have hd : decide ((i : Int) < (n : Int)) = false := by simp; omega
    have hz := h3 h
    clear h2 h3 hv
    go_enter Try.func5, Try.ntmps5
    go_wp2_with fail
    go_ret
    subst hz
    exact ⟨rfl, rfl⟩
theorem tm_in {z m : Int} (h0 : 0 ≤ z) (hm : 0 < m) : ∃ q, z.tmod m = q ∧ 0 ≤ q ∧ q < m := by
  rw [Int.tmod_eq_emod_of_nonneg h0]
  exact ⟨_, rfl, Int.emod_nonneg _ (by omega), Int.emod_lt_of_pos _ hm⟩
theorem wf_small {x : Int} (h0 : 0 ≤ x) (h1 : x ≤ 1000000000) : (Lit.int .i64 x).wf = true := by
  simp only [Lit.wf, Bool.and_eq_true, decide_eq_true_eq]
  exact ⟨by show (-9223372036854775808 : Int) ≤ _; omega, by show _ ≤ (9223372036854775807 : Int); omega⟩
def Nt (w : World) (ep us : Int) (M : Nat → KT) (n : Nat) (ta : Option Addr) (tc : Nat) (S : List Int) (vs : Value) (wr : World) : Prop :=
  Bx3 wr w.heap.size (.int .i64 ep) (.int .i64 us) (.slice ta n tc) ∧ wr.ownsRow (w.heap.size + 1) 34 4 (.slice ta n tc) n (krow M n) ∧ wr.ownsRow (w.heap.size + 1) 3 1 vs S.length (irow S) ∧ Ap (.slice ta n tc) vs ∧ Below w.heap.size w wr
theorem Nt.ns {w : World} {ep us : Int} {M : Nat → KT} {n : Nat} {ta : Option Addr} {tc : Nat} {S : List Int} {vs : Value} {wr : World} (h : Nt w ep us M n ta tc S vs wr) : Ns w ep us M n S vs wr := ⟨ta, tc, h⟩
theorem Nt.below {w : World} {ep us : Int} {M : Nat → KT} {n : Nat} {ta : Option Addr} {tc : Nat} {S : List Int} {vs : Value} {wr wr' : World} (h : Nt w ep us M n ta tc S vs wr) (hb : Below wr.heap.size wr wr') : Nt w ep us M n ta tc S vs wr' := by
  obtain ⟨h1, h2, h3, h4, h5⟩ := h
  exact ⟨h1.below hb, own_belK' h2 hb, own_belK' h3 hb, h4, h5.trans (hb.mono h5.size)⟩
theorem Nt.drew {w : World} {ep us : Int} {M : Nat → KT} {n : Nat} {ta : Option Addr} {tc : Nat} {S : List Int} {vs : Value} {wr : World} (h : Nt w ep us M n ta tc S vs wr) : Nt w ep us M n ta tc S vs wr.drew := by
  obtain ⟨h1, h2, h3, h4, h5⟩ := h
  exact ⟨h1, h2, h3, h4, Below.drew h5⟩
theorem Nt.bw {w : World} {ep us : Int} {M : Nat → KT} {n : Nat} {ta : Option Addr} {tc : Nat} {S : List Int} {vs : Value} {wr : World} (h : Nt w ep us M n ta tc S vs wr) : Below w.heap.size w wr := h.2.2.2.2
theorem Nt.lt {w : World} {ep us : Int} {M : Nat → KT} {n : Nat} {ta : Option Addr} {tc : Nat} {S : List Int} {vs : Value} {wr : World} (h : Nt w ep us M n ta tc S vs wr) : w.heap.size + 1 ≤ wr.heap.size := h.1.1
theorem take_one (S : List Int) (CL : List KT) {q : Nat} (hq : q < CL.length) : S ++ (CL.take (q + 1)).map (fun b => b.1) = (S ++ (CL.take q).map fun b => b.1) ++ [(rowL CL q).1] := by
  rw [List.take_add_one, List.getElem?_eq_getElem hq, List.map_append, List.append_assoc, rowL_get hq]
  rfl
theorem gI_in {S : List Int} {k : Nat} (h : k < S.length) : gI S k ∈ S := by
  rw [gI, List.getD_eq_getElem?_getD, List.getElem?_eq_getElem h]
  exact List.getElem_mem h
theorem gI_asc {S : List Int} (h : S.Pairwise (· < ·)) {k : Nat} (hk : k + 1 < S.length) : gI S k < gI S (k + 1) := by
  have := List.pairwise_iff_getElem.1 h k (k + 1) (by omega) hk (by omega)
  rw [gI, gI, List.getD_eq_getElem?_getD, List.getD_eq_getElem?_getD, List.getElem?_eq_getElem (show k < S.length by omega), List.getElem?_eq_getElem hk]
  exact this
set_option maxRecDepth 100000 in
set_option maxHeartbeats 32000000 in
theorem walkNonces (a0 : Option Addr) (l0 c0 : Nat) (w : World) (hcode : CodeB w w.heap.size a0 l0) :
    Calls Try.prog 3 #[.slice a0 l0 c0] w fun e w' => e = .returned (.bool true) ∧ Below w.heap.size w w' := by
  have HC : Hid (CodeB w w.heap.size a0 l0) := hcode
  clear hcode
  go_enter Try.func3, Try.ntmps3
  go_wp2_with fail
  refine (big_any _ _ _ _).mono ?_
  rintro e w' ⟨rfl, rfl⟩
  by_cases hbg : 1048576 < (l0 : Int)
  · have hbd : decide (1048576 < (l0 : Int)) = true := decide_eq_true hbg
    go_wp2
    go_ret
    exact ⟨rfl, Below.refl _ _⟩
  have hbd : decide (1048576 < (l0 : Int)) = false := decide_eq_false hbg
  have hl0 : l0 ≤ 1048576 := by omega
  obtain ⟨g, hg, hat⟩ := at_val a0 l0 c0 w.heap.size w hl0 HC.out
  have HG : Hid (∀ i, 0 ≤ g i ∧ g i ≤ 255) := hg
  have AT : Hid (∀ (v : World), Below w.heap.size w v → ∀ (i : Nat) (j : Int), i ≤ 1000 → j = (i : Int) → Calls Try.prog 5 #[.slice a0 l0 c0, .int .i64 j] v fun e w' => e = .returned (.int .i64 (g i)) ∧ v = w') := hat
  clear HC hg hat
  have A1 := Below.nw w (.cells #[.int .i64 0, .int .i64 0, .slice none 0 0] 26)
  have A2 := Below.nw (w.alloc (.cells #[.int .i64 0, .int .i64 0, .slice none 0 0] 26)) (.cells #[] 3)
  have OS := made_int (w.alloc (.cells #[.int .i64 0, .int .i64 0, .slice none 0 0] 26))
  simp only [World.size_alloc] at OS
  have NS : Ns w 0 0 (fun _ => kT 0 0 0 0) 0 [] (.slice (some ⟨w.heap.size + 1, 0, none⟩) 0 0) ((w.alloc (.cells #[.int .i64 0, .int .i64 0, .slice none 0 0] 26)).alloc (.cells #[] 3)) :=
    ⟨none, 0, (Bx3.new w _ _ _ _).below A2, World.ownsRow_nil _ _ _ _, OS, fun g hg => (by simp [Value.ownBlock] at hg), A1.trans (A2.mono A1.size)⟩
  clear A1 A2 OS
  go_upto_region 5 with fail
  generalize (w.alloc (.cells #[.int .i64 0, .int .i64 0, .slice none 0 0] 26)).alloc (.cells #[] 3) = v0 at *
  go_wp2_with fail
  go_loopw [4, 5, 6] (fun s nw i wr => ∃ (k : Nat) (ep us t : Int) (M : Nat → KT) (n : Nat) (S : List Int), k ≤ 40 ∧ i = .int .i64 k ∧ nw = .int .i64 t ∧ (0 ≤ t ∧ t ≤ 8 * (k : Int)) ∧ ep ≤ (k : Int) ∧ tabB ep us M n = true ∧ SeenOk ep us S ∧ S.length ≤ 17 * k ∧ Ns w ep us M n S s wr) (fun _ _ i _ => 40 - (intOf i).toNat)
  case atStart => exact ⟨0, 0, 0, 0, _, 0, [], by omega, rfl, rfl, ⟨by omega, by omega⟩, by omega, tab_new rfl _, SeenOk.nil _ _, by simp, NS⟩
  case round =>
    clear NS
    obtain ⟨k, ep, us, t, M, n, S, hk, rfl, rfl, ⟨ht0, ht1⟩, hek, htab, hseen, hSl, NS⟩ := hrel
    have HTab : Hid (tabB ep us M n = true) := htab
    have HSeen : Hid (SeenOk ep us S) := hseen
    obtain ⟨⟨he0, he1⟩, ⟨hu0, hu1⟩, hn16, hwf⟩ := tab_nums htab
    have HWF : Hid (∀ k, k < n → (Lit.int .i64 (M k).1).wf = true) := hwf
    clear htab hseen hwf
    by_cases hlt : k < 40 ∧ (k : Int) < 8 + (l0 : Int)
    · obtain ⟨hk1, hk2⟩ := hlt
      have hki : (k : Int) < 40 := by omega
      obtain ⟨ta, tc, NT0⟩ := NS
      have NT : Nt w ep us M n ta tc S u4 wr := NT0
      clear NT0
      have hw3 : IntKind.i64.wrap (3 * (k : Int)) = 3 * (k : Int) := Go.IntWalk.i64_in _ ⟨by omega, by omega⟩
      have hw31 : IntKind.i64.wrap (3 * (k : Int) + 1) = 3 * (k : Int) + 1 := Go.IntWalk.i64_in _ ⟨by omega, by omega⟩
      have hw32 : IntKind.i64.wrap (3 * (k : Int) + 2) = 3 * (k : Int) + 2 := Go.IntWalk.i64_in _ ⟨by omega, by omega⟩
      have hz0 := HG.out (3 * k)
      have hz1 := HG.out (3 * k + 1)
      have hz2 := HG.out (3 * k + 2)
      have AZ0 := fun v hb => AT.out v hb (3 * k) (3 * (k : Int)) (by omega) (by omega)
      have AZ1 := fun v hb => AT.out v hb (3 * k + 1) (3 * (k : Int) + 1) (by omega) (by omega)
      have AZ2 := fun v hb => AT.out v hb (3 * k + 2) (3 * (k : Int) + 2) (by omega) (by omega)
      generalize g (3 * k) = z0 at *
      generalize g (3 * k + 1) = z1 at *
      generalize g (3 * k + 2) = z2 at *
      obtain ⟨q9, hq9, hq90, hq91⟩ := tm_in (m := 9) hz0.1 (by omega)
      obtain ⟨f8, hf8, hf80, hf81⟩ := tm_in (m := 8) hz0.1 (by omega)
      obtain ⟨r, hr, hr0, hr1⟩ := tm_in (m := 6) hz1.1 (by omega)
      obtain ⟨x8, hx8, hx80, hx81⟩ := tm_in (m := 8) hz2.1 (by omega)
      obtain ⟨y30, hy30, hy300, hy301⟩ := tm_in (m := 30) hz2.1 (by omega)
      have hwt : IntKind.i64.wrap (t + q9) = t + q9 := Go.IntWalk.i64_in _ ⟨by omega, by omega⟩
      go_wp2_with fail
      refine (AZ0 _ NT.bw).mono ?_
      rintro e w' ⟨rfl, rfl⟩
      go_wp2_with fail
      refine (AZ1 _ NT.bw).mono ?_
      rintro e w' ⟨rfl, rfl⟩
      go_upto_if 62 with fail
      generalize ht9 : t + q9 = t9 at *
      have htt : 0 ≤ t9 ∧ t9 ≤ 8 * ((k : Int) + 1) := by omega
      clear ht9 hwt ht0 ht1 AZ1 hz1
      have hnx : nodB x8 = true := decide_eq_true (by omega)
      have htm : tmB t9 = true := decide_eq_true (by omega)
      have htm2 : tmB y30 = true := decide_eq_true (by omega)
      go_cut [62] (fun s62 wx => s62 = .bool (decide (r ≤ 2)) ∧ wr = wx)
      case first =>
        by_cases c0 : r = 0
        · subst c0
          go_wp2_with fail
          go_meet
          case rel => exact ⟨rfl, rfl⟩
        have c0' : (r == 0) = false := beq_eq_false_iff_ne.2 c0
        by_cases c1 : r = 1
        · subst c1
          go_wp2_with fail
          go_meet
          case rel => exact ⟨rfl, rfl⟩
        have c1' : (r == 1) = false := beq_eq_false_iff_ne.2 c1
        by_cases c2 : r = 2
        · subst c2
          go_wp2_with fail
          go_meet
          case rel => exact ⟨rfl, rfl⟩
        have c2' : (r == 2) = false := beq_eq_false_iff_ne.2 c2
        go_wp2_with fail
        go_meet
        case rel => exact ⟨by rw [decide_eq_false (by omega)], rfl⟩
      case rest =>
        obtain ⟨rfl, rfl⟩ := hcut
        by_cases hr2 : r ≤ 2
        · have hr2' : decide (r ≤ 2) = true := decide_eq_true hr2
          rw [hr2']
          as_aux_lemma =>
            obtain ⟨Xu, mm, G, C0, C1, CS, CI, hT3, hcase⟩ := issue_two HTab.out hnx htm
            have HT3 : Hid (tabB ep Xu G mm = true) := hT3
            have HCase : Hid ((C1 = 0 ∧ C0 = ep * 1000 + us ∧ Xu = us + 1) ∨ ((C1 = 2 ∨ C1 = 3) ∧ Xu = us)) := hcase
            clear hT3 hcase
            obtain ⟨n0, n1, n2, n3, n4, n5, n6⟩ := id NT.1
            go_upto_region 15 with fail
            generalize wr = u at *
            go_cut [7, 8, 9] (fun s7 s8 s9 wx => ∃ (j7 : Nat) (a7 : Option Addr) (c7 : Nat), s7 = .pointer (some ⟨j7, 0, none⟩) ∧ s8 = .int .i64 C0 ∧ s9 = .int .i64 C1 ∧ Bx3 wx j7 (.int .i64 ep) (.int .i64 Xu) (.slice a7 mm c7) ∧ Nt w ep us M n ta tc S u4 wx)
            case first =>
              as_aux_lemma =>
                refine wp_region_held_drew (S := (fun w' => w'.cell? ⟨w.heap.size, 0, none⟩ = some (.int .i64 ep) ∧ w'.cell? ⟨w.heap.size, 1, none⟩ = some (.int .i64 us) ∧ w'.cell? ⟨w.heap.size, 2, none⟩ = some (.slice ta n tc))) (by kernel_rfl) ?_ (fun hHeld => ?_)
                · first | exact ⟨n1, n2, n3⟩ | (simp (maxDischargeDepth := 6) [go_sem, *]; done)
                clear n0 n1 n2 n3 n4 n5 n6
                replace NT := NT.drew
                generalize u.drew = v at *
                have BB := Below.refl v.heap.size v
                obtain ⟨n0, n1, n2, n3, n4, n5, n6⟩ := id NT.1
                refine wpAnyH_take (i := 0) (v := ?_) (by rw [List.getElem?_toArray]; rfl) (by kernel_rfl) (by kernel_rfl) (by kernel_rfl) (by intro _ _ _ h; exact h) (Or.inl ⟨by rfl, ?_⟩) (by assumption) ?_
                rotate_left
                · (intro w hSw; (try dsimp only at hSw); go_simp; all_goals with_reducible rfl)
                (try simp only [Act.put, List.setIfInBounds_toArray, List.set_cons_zero, List.set_cons_succ])
                refine wpAnyH_take (i := 1) (v := ?_) (by rw [List.getElem?_toArray]; rfl) (by kernel_rfl) (by kernel_rfl) (by kernel_rfl) (by intro _ _ _ h; exact h) (Or.inl ⟨by rfl, ?_⟩) (by assumption) ?_
                rotate_left
                · (intro w hSw; (try dsimp only at hSw); go_simp; all_goals with_reducible rfl)
                (try simp only [Act.put, List.setIfInBounds_toArray, List.set_cons_zero, List.set_cons_succ])
                refine wpAnyH_take (i := 2) (v := ?_) (by rw [List.getElem?_toArray]; rfl) (by kernel_rfl) (by kernel_rfl) (by kernel_rfl) (by intro _ _ _ h; exact h) (Or.inl ⟨by rfl, ?_⟩) (by assumption) ?_
                rotate_left
                · (intro w hSw; (try dsimp only at hSw); go_simp; all_goals with_reducible rfl)
                (try simp only [Act.put, List.setIfInBounds_toArray, List.set_cons_zero, List.set_cons_succ])
                refine wpAnyH_take (i := 3) (v := ?_) (by rw [List.getElem?_toArray]; rfl) (by kernel_rfl) (by kernel_rfl) (by kernel_rfl) (by intro _ _ _ h; exact h) (Or.inl ⟨by rfl, ?_⟩) (by assumption) ?_
                rotate_left
                · (intro w hSw; (try dsimp only at hSw); go_simp; all_goals with_reducible rfl)
                (try simp only [Act.put, List.setIfInBounds_toArray, List.set_cons_zero, List.set_cons_succ])
                refine wpAnyH_take (i := 4) (v := ?_) (by rw [List.getElem?_toArray]; rfl) (by kernel_rfl) (by kernel_rfl) (by kernel_rfl) (by intro _ _ _ h; exact h) (Or.inl ⟨by rfl, ?_⟩) (by assumption) ?_
                rotate_left
                · (intro w hSw; (try dsimp only at hSw); go_simp; all_goals with_reducible rfl)
                (try simp only [Act.put, List.setIfInBounds_toArray, List.set_cons_zero, List.set_cons_succ])
                refine wpAnyH_take (i := 7) (v := ?_) (by rw [List.getElem?_toArray]; rfl) (by kernel_rfl) (by kernel_rfl) (by kernel_rfl) (by intro _ _ _ h; exact h) (Or.inl ⟨by rfl, ?_⟩) (by assumption) ?_
                rotate_left
                · (intro w hSw; (try dsimp only at hSw); go_simp; all_goals with_reducible rfl)
                (try simp only [Act.put, List.setIfInBounds_toArray, List.set_cons_zero, List.set_cons_succ])
                refine wpAnyH_ready (rs := [5, 13]) (by kernel_rfl) (by simp) ?_
                refine (AllReadyH.cons (by rw [List.getElem?_toArray]; rfl) (fun K hK => ?_) (AllReadyH.cons (by rw [List.getElem?_toArray]; rfl) (fun K hK => ?_) AllReadyH.nil))
                · go_simp
                  refine (AZ2 _ (NT.below BB).bw).mono ?_; rintro e w' ⟨rfl, rfl⟩
                  (try go_wp2_with fail)
                  refine hK.out _ _ ?_ (fun hHeld => ?_)
                  · first | exact ⟨n1, n2, n3⟩ | (simp (maxDischargeDepth := 6) [go_sem, *]; done)
                  clear hK K
                  (try simp only [Act.put, List.setIfInBounds_toArray, List.set_cons_zero, List.set_cons_succ])
                  refine wpAnyH_take (i := 6) (v := ?_) (by rw [List.getElem?_toArray]; rfl) (by kernel_rfl) (by kernel_rfl) (by kernel_rfl) (by intro _ _ _ h; exact h) (Or.inl ⟨by rfl, ?_⟩) (by assumption) ?_
                  rotate_left
                  · (intro w hSw; (try dsimp only at hSw); go_simp; all_goals with_reducible rfl)
                  (try simp only [Act.put, List.setIfInBounds_toArray, List.set_cons_zero, List.set_cons_succ])
                  refine wpAnyH_ready (rs := [8, 13]) (by kernel_rfl) (by simp) ?_
                  refine (AllReadyH.cons (by rw [List.getElem?_toArray]; rfl) (fun K hK => ?_) (AllReadyH.cons (by rw [List.getElem?_toArray]; rfl) (fun K hK => ?_) AllReadyH.nil))
                  · go_simp
                    refine (CS _ _ _ _ (NT.below BB).2.1).mono ?_; rintro e v1 ⟨a7, c7, rfl, OG, hb⟩; clear n0 n1 n2 n3 n4 n5 n6; (replace BB := BB.trans (hb.mono BB.size)); clear hb; obtain ⟨n0, n1, n2, n3, n4, n5, n6⟩ := id (NT.below BB).1
                    (try go_wp2_with fail)
                    refine hK.out _ _ ?_ (fun hHeld => ?_)
                    · first | exact ⟨n1, n2, n3⟩ | (simp (maxDischargeDepth := 6) [go_sem, *]; done)
                    clear hK K
                    (try simp only [Act.put, List.setIfInBounds_toArray, List.set_cons_zero, List.set_cons_succ])
                    refine wpAnyH_take (i := 9) (v := ?_) (by rw [List.getElem?_toArray]; rfl) (by kernel_rfl) (by kernel_rfl) (by kernel_rfl) (by intro _ _ _ h; exact h) (Or.inl ⟨by rfl, ?_⟩) (by assumption) ?_
                    rotate_left
                    · (intro w hSw; (try dsimp only at hSw); go_simp; all_goals with_reducible rfl)
                    (try simp only [Act.put, List.setIfInBounds_toArray, List.set_cons_zero, List.set_cons_succ])
                    refine wpAnyH_take (i := 10) (v := ?_) (by rw [List.getElem?_toArray]; rfl) (by kernel_rfl) (by kernel_rfl) (by kernel_rfl) (by intro _ _ _ h; exact h) (Or.inl ⟨by rfl, ?_⟩) (by assumption) ?_
                    rotate_left
                    · (intro w hSw; (try dsimp only at hSw); go_simp; all_goals with_reducible rfl)
                    (try simp only [Act.put, List.setIfInBounds_toArray, List.set_cons_zero, List.set_cons_succ])
                    refine wpAnyH_take (i := 11) (v := ?_) (by rw [List.getElem?_toArray]; rfl) (by kernel_rfl) (by kernel_rfl) (by kernel_rfl) (by intro _ _ _ h; exact h) (Or.inl ⟨by rfl, ?_⟩) (by assumption) ?_
                    rotate_left
                    · (intro w hSw; (try dsimp only at hSw); go_simp; all_goals with_reducible rfl)
                    (try simp only [Act.put, List.setIfInBounds_toArray, List.set_cons_zero, List.set_cons_succ])
                    refine wpAnyH_take (i := 12) (v := ?_) (by rw [List.getElem?_toArray]; rfl) (by kernel_rfl) (by kernel_rfl) (by kernel_rfl) (by intro _ _ _ h; exact h) (Or.inl ⟨by rfl, ?_⟩) (by assumption) ?_
                    rotate_left
                    · (intro w hSw; (try dsimp only at hSw); go_simp; all_goals with_reducible rfl)
                    (try simp only [Act.put, List.setIfInBounds_toArray, List.set_cons_zero, List.set_cons_succ])
                    refine wpAnyH_ready (rs := [13]) (by kernel_rfl) (by simp) ?_
                    refine (AllReadyH.cons (by rw [List.getElem?_toArray]; rfl) (fun K hK => ?_) AllReadyH.nil)
                    go_simp
                    (have N := Bx3.new v1 (.int .i64 0) (.int .i64 0) (.slice none 0 0) 26); (have A := Below.nw v1 (.cells #[.int .i64 0, .int .i64 0, .slice none 0 0] 26)); (have hjj : v.heap.size ≤ v1.heap.size := BB.size); (have hne : w.heap.size ≠ v1.heap.size := by have := (NT.below BB).lt; omega); (have hne' := Ne.symm hne); (replace BB := BB.trans (A.mono BB.size)); (have hvj : v1.heap.size < (v1.alloc (.cells #[.int .i64 0, .int .i64 0, .slice none 0 0] 26)).heap.size := N.1); clear n0 n1 n2 n3 n4 n5 n6; clear A; (generalize v1.alloc (.cells #[.int .i64 0, .int .i64 0, .slice none 0 0] 26) = v2 at *); obtain ⟨n0, n1, n2, n3, n4, n5, n6⟩ := id (NT.below BB).1; obtain ⟨m0, m1, m2, m3, m4, m5, m6⟩ := id N
                    refine hK.out _ _ ?_ (fun hHeld => ?_)
                    · first | exact ⟨n1, n2, n3⟩ | (simp (maxDischargeDepth := 6) [go_sem, *]; done)
                    clear hK K
                    (try simp only [Act.put, List.setIfInBounds_toArray, List.set_cons_zero, List.set_cons_succ])
                    refine wpAnyH_ready (rs := [14]) (by kernel_rfl) (by simp) ?_
                    refine (AllReadyH.cons (by rw [List.getElem?_toArray]; rfl) (fun K hK => ?_) AllReadyH.nil)
                    go_simp
                    refine hK.out _ _ ?_ (fun hHeld => ?_)
                    · first | exact ⟨n1, n2, n3⟩ | (simp (maxDischargeDepth := 6) [go_sem, *]; done)
                    clear hK K
                    (try simp only [Act.put, List.setIfInBounds_toArray, List.set_cons_zero, List.set_cons_succ])
                    refine wpAnyH_take (i := 15) (v := ?_) (by rw [List.getElem?_toArray]; rfl) (by kernel_rfl) (by kernel_rfl) (by kernel_rfl) (by intro _ _ _ h; exact h) (Or.inl ⟨by rfl, ?_⟩) (by assumption) ?_
                    rotate_left
                    · (intro w hSw; (try dsimp only at hSw); go_simp; all_goals with_reducible rfl)
                    (try simp only [Act.put, List.setIfInBounds_toArray, List.set_cons_zero, List.set_cons_succ])
                    refine wpAnyH_take (i := 16) (v := ?_) (by rw [List.getElem?_toArray]; rfl) (by kernel_rfl) (by kernel_rfl) (by kernel_rfl) (by intro _ _ _ h; exact h) (Or.inl ⟨by rfl, ?_⟩) (by assumption) ?_
                    rotate_left
                    · (intro w hSw; (try dsimp only at hSw); go_simp; all_goals with_reducible rfl)
                    (try simp only [Act.put, List.setIfInBounds_toArray, List.set_cons_zero, List.set_cons_succ])
                    refine wpAnyH_done (by kernel_rfl) ?_ _
                    go_wp2_with fail
                    go_meet
                    case rel => exact ⟨_, a7, c7, rfl, rfl, rfl, N.set _ _ _, NT.below (((BB.setCell hjj _).setCell hjj _).setCell hjj _)⟩
                  · go_simp
                    (have N := Bx3.new v (.int .i64 0) (.int .i64 0) (.slice none 0 0) 26); (have A := Below.nw v (.cells #[.int .i64 0, .int .i64 0, .slice none 0 0] 26)); (have hjj : v.heap.size ≤ v.heap.size := BB.size); (have hne : w.heap.size ≠ v.heap.size := by have := (NT.below BB).lt; omega); (have hne' := Ne.symm hne); (replace BB := BB.trans (A.mono BB.size)); (have hvj : v.heap.size < (v.alloc (.cells #[.int .i64 0, .int .i64 0, .slice none 0 0] 26)).heap.size := N.1); clear n0 n1 n2 n3 n4 n5 n6; clear A; (generalize v.alloc (.cells #[.int .i64 0, .int .i64 0, .slice none 0 0] 26) = v2 at *); obtain ⟨n0, n1, n2, n3, n4, n5, n6⟩ := id (NT.below BB).1; obtain ⟨m0, m1, m2, m3, m4, m5, m6⟩ := id N
                    refine hK.out _ _ ?_ (fun hHeld => ?_)
                    · first | exact ⟨n1, n2, n3⟩ | (simp (maxDischargeDepth := 6) [go_sem, *]; done)
                    clear hK K
                    (try simp only [Act.put, List.setIfInBounds_toArray, List.set_cons_zero, List.set_cons_succ])
                    refine wpAnyH_ready (rs := [8]) (by kernel_rfl) (by simp) ?_
                    refine (AllReadyH.cons (by rw [List.getElem?_toArray]; rfl) (fun K hK => ?_) AllReadyH.nil)
                    go_simp
                    refine (CS _ _ _ _ (NT.below BB).2.1).mono ?_; rintro e v1 ⟨a7, c7, rfl, OG, hb⟩; clear n0 n1 n2 n3 n4 n5 n6; clear m0 m1 m2 m3 m4 m5 m6; (replace N := N.below hb); (replace BB := BB.trans (hb.mono BB.size)); clear hb; obtain ⟨n0, n1, n2, n3, n4, n5, n6⟩ := id (NT.below BB).1; obtain ⟨m0, m1, m2, m3, m4, m5, m6⟩ := id N
                    (try go_wp2_with fail)
                    refine hK.out _ _ ?_ (fun hHeld => ?_)
                    · first | exact ⟨n1, n2, n3⟩ | (simp (maxDischargeDepth := 6) [go_sem, *]; done)
                    clear hK K
                    (try simp only [Act.put, List.setIfInBounds_toArray, List.set_cons_zero, List.set_cons_succ])
                    refine wpAnyH_take (i := 9) (v := ?_) (by rw [List.getElem?_toArray]; rfl) (by kernel_rfl) (by kernel_rfl) (by kernel_rfl) (by intro _ _ _ h; exact h) (Or.inl ⟨by rfl, ?_⟩) (by assumption) ?_
                    rotate_left
                    · (intro w hSw; (try dsimp only at hSw); go_simp; all_goals with_reducible rfl)
                    (try simp only [Act.put, List.setIfInBounds_toArray, List.set_cons_zero, List.set_cons_succ])
                    refine wpAnyH_take (i := 10) (v := ?_) (by rw [List.getElem?_toArray]; rfl) (by kernel_rfl) (by kernel_rfl) (by kernel_rfl) (by intro _ _ _ h; exact h) (Or.inl ⟨by rfl, ?_⟩) (by assumption) ?_
                    rotate_left
                    · (intro w hSw; (try dsimp only at hSw); go_simp; all_goals with_reducible rfl)
                    (try simp only [Act.put, List.setIfInBounds_toArray, List.set_cons_zero, List.set_cons_succ])
                    refine wpAnyH_take (i := 11) (v := ?_) (by rw [List.getElem?_toArray]; rfl) (by kernel_rfl) (by kernel_rfl) (by kernel_rfl) (by intro _ _ _ h; exact h) (Or.inl ⟨by rfl, ?_⟩) (by assumption) ?_
                    rotate_left
                    · (intro w hSw; (try dsimp only at hSw); go_simp; all_goals with_reducible rfl)
                    (try simp only [Act.put, List.setIfInBounds_toArray, List.set_cons_zero, List.set_cons_succ])
                    refine wpAnyH_take (i := 12) (v := ?_) (by rw [List.getElem?_toArray]; rfl) (by kernel_rfl) (by kernel_rfl) (by kernel_rfl) (by intro _ _ _ h; exact h) (Or.inl ⟨by rfl, ?_⟩) (by assumption) ?_
                    rotate_left
                    · (intro w hSw; (try dsimp only at hSw); go_simp; all_goals with_reducible rfl)
                    (try simp only [Act.put, List.setIfInBounds_toArray, List.set_cons_zero, List.set_cons_succ])
                    refine wpAnyH_ready (rs := [14]) (by kernel_rfl) (by simp) ?_
                    refine (AllReadyH.cons (by rw [List.getElem?_toArray]; rfl) (fun K hK => ?_) AllReadyH.nil)
                    go_simp
                    refine hK.out _ _ ?_ (fun hHeld => ?_)
                    · first | exact ⟨n1, n2, n3⟩ | (simp (maxDischargeDepth := 6) [go_sem, *]; done)
                    clear hK K
                    (try simp only [Act.put, List.setIfInBounds_toArray, List.set_cons_zero, List.set_cons_succ])
                    refine wpAnyH_take (i := 15) (v := ?_) (by rw [List.getElem?_toArray]; rfl) (by kernel_rfl) (by kernel_rfl) (by kernel_rfl) (by intro _ _ _ h; exact h) (Or.inl ⟨by rfl, ?_⟩) (by assumption) ?_
                    rotate_left
                    · (intro w hSw; (try dsimp only at hSw); go_simp; all_goals with_reducible rfl)
                    (try simp only [Act.put, List.setIfInBounds_toArray, List.set_cons_zero, List.set_cons_succ])
                    refine wpAnyH_take (i := 16) (v := ?_) (by rw [List.getElem?_toArray]; rfl) (by kernel_rfl) (by kernel_rfl) (by kernel_rfl) (by intro _ _ _ h; exact h) (Or.inl ⟨by rfl, ?_⟩) (by assumption) ?_
                    rotate_left
                    · (intro w hSw; (try dsimp only at hSw); go_simp; all_goals with_reducible rfl)
                    (try simp only [Act.put, List.setIfInBounds_toArray, List.set_cons_zero, List.set_cons_succ])
                    refine wpAnyH_done (by kernel_rfl) ?_ _
                    go_wp2_with fail
                    go_meet
                    case rel => exact ⟨_, a7, c7, rfl, rfl, rfl, N.set _ _ _, NT.below (((BB.setCell hjj _).setCell hjj _).setCell hjj _)⟩
                · go_simp
                  (have N := Bx3.new v (.int .i64 0) (.int .i64 0) (.slice none 0 0) 26); (have A := Below.nw v (.cells #[.int .i64 0, .int .i64 0, .slice none 0 0] 26)); (have hjj : v.heap.size ≤ v.heap.size := BB.size); (have hne : w.heap.size ≠ v.heap.size := by have := (NT.below BB).lt; omega); (have hne' := Ne.symm hne); (replace BB := BB.trans (A.mono BB.size)); (have hvj : v.heap.size < (v.alloc (.cells #[.int .i64 0, .int .i64 0, .slice none 0 0] 26)).heap.size := N.1); clear n0 n1 n2 n3 n4 n5 n6; clear A; (generalize v.alloc (.cells #[.int .i64 0, .int .i64 0, .slice none 0 0] 26) = v2 at *); obtain ⟨n0, n1, n2, n3, n4, n5, n6⟩ := id (NT.below BB).1; obtain ⟨m0, m1, m2, m3, m4, m5, m6⟩ := id N
                  refine hK.out _ _ ?_ (fun hHeld => ?_)
                  · first | exact ⟨n1, n2, n3⟩ | (simp (maxDischargeDepth := 6) [go_sem, *]; done)
                  clear hK K
                  (try simp only [Act.put, List.setIfInBounds_toArray, List.set_cons_zero, List.set_cons_succ])
                  refine wpAnyH_ready (rs := [5]) (by kernel_rfl) (by simp) ?_
                  refine (AllReadyH.cons (by rw [List.getElem?_toArray]; rfl) (fun K hK => ?_) AllReadyH.nil)
                  go_simp
                  refine (AZ2 _ (NT.below BB).bw).mono ?_; rintro e w' ⟨rfl, rfl⟩
                  (try go_wp2_with fail)
                  refine hK.out _ _ ?_ (fun hHeld => ?_)
                  · first | exact ⟨n1, n2, n3⟩ | (simp (maxDischargeDepth := 6) [go_sem, *]; done)
                  clear hK K
                  (try simp only [Act.put, List.setIfInBounds_toArray, List.set_cons_zero, List.set_cons_succ])
                  refine wpAnyH_take (i := 6) (v := ?_) (by rw [List.getElem?_toArray]; rfl) (by kernel_rfl) (by kernel_rfl) (by kernel_rfl) (by intro _ _ _ h; exact h) (Or.inl ⟨by rfl, ?_⟩) (by assumption) ?_
                  rotate_left
                  · (intro w hSw; (try dsimp only at hSw); go_simp; all_goals with_reducible rfl)
                  (try simp only [Act.put, List.setIfInBounds_toArray, List.set_cons_zero, List.set_cons_succ])
                  refine wpAnyH_ready (rs := [8]) (by kernel_rfl) (by simp) ?_
                  refine (AllReadyH.cons (by rw [List.getElem?_toArray]; rfl) (fun K hK => ?_) AllReadyH.nil)
                  go_simp
                  refine (CS _ _ _ _ (NT.below BB).2.1).mono ?_; rintro e v1 ⟨a7, c7, rfl, OG, hb⟩; clear n0 n1 n2 n3 n4 n5 n6; clear m0 m1 m2 m3 m4 m5 m6; (replace N := N.below hb); (replace BB := BB.trans (hb.mono BB.size)); clear hb; obtain ⟨n0, n1, n2, n3, n4, n5, n6⟩ := id (NT.below BB).1; obtain ⟨m0, m1, m2, m3, m4, m5, m6⟩ := id N
                  (try go_wp2_with fail)
                  refine hK.out _ _ ?_ (fun hHeld => ?_)
                  · first | exact ⟨n1, n2, n3⟩ | (simp (maxDischargeDepth := 6) [go_sem, *]; done)
                  clear hK K
                  (try simp only [Act.put, List.setIfInBounds_toArray, List.set_cons_zero, List.set_cons_succ])
                  refine wpAnyH_take (i := 9) (v := ?_) (by rw [List.getElem?_toArray]; rfl) (by kernel_rfl) (by kernel_rfl) (by kernel_rfl) (by intro _ _ _ h; exact h) (Or.inl ⟨by rfl, ?_⟩) (by assumption) ?_
                  rotate_left
                  · (intro w hSw; (try dsimp only at hSw); go_simp; all_goals with_reducible rfl)
                  (try simp only [Act.put, List.setIfInBounds_toArray, List.set_cons_zero, List.set_cons_succ])
                  refine wpAnyH_take (i := 10) (v := ?_) (by rw [List.getElem?_toArray]; rfl) (by kernel_rfl) (by kernel_rfl) (by kernel_rfl) (by intro _ _ _ h; exact h) (Or.inl ⟨by rfl, ?_⟩) (by assumption) ?_
                  rotate_left
                  · (intro w hSw; (try dsimp only at hSw); go_simp; all_goals with_reducible rfl)
                  (try simp only [Act.put, List.setIfInBounds_toArray, List.set_cons_zero, List.set_cons_succ])
                  refine wpAnyH_take (i := 11) (v := ?_) (by rw [List.getElem?_toArray]; rfl) (by kernel_rfl) (by kernel_rfl) (by kernel_rfl) (by intro _ _ _ h; exact h) (Or.inl ⟨by rfl, ?_⟩) (by assumption) ?_
                  rotate_left
                  · (intro w hSw; (try dsimp only at hSw); go_simp; all_goals with_reducible rfl)
                  (try simp only [Act.put, List.setIfInBounds_toArray, List.set_cons_zero, List.set_cons_succ])
                  refine wpAnyH_take (i := 12) (v := ?_) (by rw [List.getElem?_toArray]; rfl) (by kernel_rfl) (by kernel_rfl) (by kernel_rfl) (by intro _ _ _ h; exact h) (Or.inl ⟨by rfl, ?_⟩) (by assumption) ?_
                  rotate_left
                  · (intro w hSw; (try dsimp only at hSw); go_simp; all_goals with_reducible rfl)
                  (try simp only [Act.put, List.setIfInBounds_toArray, List.set_cons_zero, List.set_cons_succ])
                  refine wpAnyH_ready (rs := [14]) (by kernel_rfl) (by simp) ?_
                  refine (AllReadyH.cons (by rw [List.getElem?_toArray]; rfl) (fun K hK => ?_) AllReadyH.nil)
                  go_simp
                  refine hK.out _ _ ?_ (fun hHeld => ?_)
                  · first | exact ⟨n1, n2, n3⟩ | (simp (maxDischargeDepth := 6) [go_sem, *]; done)
                  clear hK K
                  (try simp only [Act.put, List.setIfInBounds_toArray, List.set_cons_zero, List.set_cons_succ])
                  refine wpAnyH_take (i := 15) (v := ?_) (by rw [List.getElem?_toArray]; rfl) (by kernel_rfl) (by kernel_rfl) (by kernel_rfl) (by intro _ _ _ h; exact h) (Or.inl ⟨by rfl, ?_⟩) (by assumption) ?_
                  rotate_left
                  · (intro w hSw; (try dsimp only at hSw); go_simp; all_goals with_reducible rfl)
                  (try simp only [Act.put, List.setIfInBounds_toArray, List.set_cons_zero, List.set_cons_succ])
                  refine wpAnyH_take (i := 16) (v := ?_) (by rw [List.getElem?_toArray]; rfl) (by kernel_rfl) (by kernel_rfl) (by kernel_rfl) (by intro _ _ _ h; exact h) (Or.inl ⟨by rfl, ?_⟩) (by assumption) ?_
                  rotate_left
                  · (intro w hSw; (try dsimp only at hSw); go_simp; all_goals with_reducible rfl)
                  (try simp only [Act.put, List.setIfInBounds_toArray, List.set_cons_zero, List.set_cons_succ])
                  refine wpAnyH_done (by kernel_rfl) ?_ _
                  go_wp2_with fail
                  go_meet
                  case rel => exact ⟨_, a7, c7, rfl, rfl, rfl, N.set _ _ _, NT.below (((BB.setCell hjj _).setCell hjj _).setCell hjj _)⟩
            case rest =>
              clear n0 n1 n2 n3 n4 n5 n6 NT CS
              obtain ⟨j7, a7, c7, rfl, rfl, rfl, J7, NT⟩ := hcut
              generalize wc = u at *
              obtain ⟨n0, n1, n2, n3, n4, n5, n6⟩ := id NT.1
              go_upto_region 16 with fail
              go_cut [10, 11, 12] (fun s10 s11 s12 wx => ∃ (j10 : Nat) (aa : Option Addr) (cc : Nat), s10 = .pointer (some ⟨j10, 0, none⟩) ∧ s11 = .int .i64 C0 ∧ s12 = .int .i64 C1 ∧ Bx3 wx j10 (.int .i64 ep) (.int .i64 Xu) (.slice aa mm cc) ∧ wx.ownsRow (w.heap.size + 1) 34 4 (.slice aa mm cc) mm (krow G mm) ∧ Ap (.slice aa mm cc) u4 ∧ Bx3 wx j7 (.int .i64 ep) (.int .i64 Xu) (.slice a7 mm c7) ∧ Nt w ep us M n ta tc S u4 wx)
              case first =>
                as_aux_lemma =>
                  refine wp_region_held_drew (S := (fun w' => w'.cell? ⟨w.heap.size, 0, none⟩ = some (.int .i64 ep) ∧ w'.cell? ⟨w.heap.size, 1, none⟩ = some (.int .i64 us) ∧ w'.cell? ⟨w.heap.size, 2, none⟩ = some (.slice ta n tc))) (by kernel_rfl) ?_ (fun hHeld => ?_)
                  · first | exact ⟨n1, n2, n3⟩ | (simp (maxDischargeDepth := 6) [go_sem, *]; done)
                  clear n0 n1 n2 n3 n4 n5 n6
                  replace NT := NT.drew
                  replace J7 := J7.drew
                  generalize u.drew = v at *
                  have BB := Below.refl v.heap.size v
                  obtain ⟨n0, n1, n2, n3, n4, n5, n6⟩ := id NT.1
                  refine wpAnyH_take (i := 0) (v := ?_) (by rw [List.getElem?_toArray]; rfl) (by kernel_rfl) (by kernel_rfl) (by kernel_rfl) (by intro _ _ _ h; exact h) (Or.inl ⟨by rfl, ?_⟩) (by assumption) ?_
                  rotate_left
                  · (intro w hSw; (try dsimp only at hSw); go_simp; all_goals with_reducible rfl)
                  (try simp only [Act.put, List.setIfInBounds_toArray, List.set_cons_zero, List.set_cons_succ])
                  refine wpAnyH_take (i := 1) (v := ?_) (by rw [List.getElem?_toArray]; rfl) (by kernel_rfl) (by kernel_rfl) (by kernel_rfl) (by intro _ _ _ h; exact h) (Or.inl ⟨by rfl, ?_⟩) (by assumption) ?_
                  rotate_left
                  · (intro w hSw; (try dsimp only at hSw); go_simp; all_goals with_reducible rfl)
                  (try simp only [Act.put, List.setIfInBounds_toArray, List.set_cons_zero, List.set_cons_succ])
                  refine wpAnyH_take (i := 2) (v := ?_) (by rw [List.getElem?_toArray]; rfl) (by kernel_rfl) (by kernel_rfl) (by kernel_rfl) (by intro _ _ _ h; exact h) (Or.inl ⟨by rfl, ?_⟩) (by assumption) ?_
                  rotate_left
                  · (intro w hSw; (try dsimp only at hSw); go_simp; all_goals with_reducible rfl)
                  (try simp only [Act.put, List.setIfInBounds_toArray, List.set_cons_zero, List.set_cons_succ])
                  refine wpAnyH_take (i := 3) (v := ?_) (by rw [List.getElem?_toArray]; rfl) (by kernel_rfl) (by kernel_rfl) (by kernel_rfl) (by intro _ _ _ h; exact h) (Or.inl ⟨by rfl, ?_⟩) (by assumption) ?_
                  rotate_left
                  · (intro w hSw; (try dsimp only at hSw); go_simp; all_goals with_reducible rfl)
                  (try simp only [Act.put, List.setIfInBounds_toArray, List.set_cons_zero, List.set_cons_succ])
                  refine wpAnyH_take (i := 4) (v := ?_) (by rw [List.getElem?_toArray]; rfl) (by kernel_rfl) (by kernel_rfl) (by kernel_rfl) (by intro _ _ _ h; exact h) (Or.inl ⟨by rfl, ?_⟩) (by assumption) ?_
                  rotate_left
                  · (intro w hSw; (try dsimp only at hSw); go_simp; all_goals with_reducible rfl)
                  (try simp only [Act.put, List.setIfInBounds_toArray, List.set_cons_zero, List.set_cons_succ])
                  refine wpAnyH_take (i := 7) (v := ?_) (by rw [List.getElem?_toArray]; rfl) (by kernel_rfl) (by kernel_rfl) (by kernel_rfl) (by intro _ _ _ h; exact h) (Or.inl ⟨by rfl, ?_⟩) (by assumption) ?_
                  rotate_left
                  · (intro w hSw; (try dsimp only at hSw); go_simp; all_goals with_reducible rfl)
                  (try simp only [Act.put, List.setIfInBounds_toArray, List.set_cons_zero, List.set_cons_succ])
                  refine wpAnyH_ready (rs := [5, 13]) (by kernel_rfl) (by simp) ?_
                  refine (AllReadyH.cons (by rw [List.getElem?_toArray]; rfl) (fun K hK => ?_) (AllReadyH.cons (by rw [List.getElem?_toArray]; rfl) (fun K hK => ?_) AllReadyH.nil))
                  · go_simp
                    refine (AZ2 _ (NT.below BB).bw).mono ?_; rintro e w' ⟨rfl, rfl⟩
                    (try go_wp2_with fail)
                    refine hK.out _ _ ?_ (fun hHeld => ?_)
                    · first | exact ⟨n1, n2, n3⟩ | (simp (maxDischargeDepth := 6) [go_sem, *]; done)
                    clear hK K
                    (try simp only [Act.put, List.setIfInBounds_toArray, List.set_cons_zero, List.set_cons_succ])
                    refine wpAnyH_take (i := 6) (v := ?_) (by rw [List.getElem?_toArray]; rfl) (by kernel_rfl) (by kernel_rfl) (by kernel_rfl) (by intro _ _ _ h; exact h) (Or.inl ⟨by rfl, ?_⟩) (by assumption) ?_
                    rotate_left
                    · (intro w hSw; (try dsimp only at hSw); go_simp; all_goals with_reducible rfl)
                    (try simp only [Act.put, List.setIfInBounds_toArray, List.set_cons_zero, List.set_cons_succ])
                    refine wpAnyH_ready (rs := [8, 13]) (by kernel_rfl) (by simp) ?_
                    refine (AllReadyH.cons (by rw [List.getElem?_toArray]; rfl) (fun K hK => ?_) (AllReadyH.cons (by rw [List.getElem?_toArray]; rfl) (fun K hK => ?_) AllReadyH.nil))
                    · go_simp
                      refine (CI _ _ _ _ (NT.below BB).2.1).mono ?_; rintro e v1 ⟨aa, cc, rfl, OG, hb⟩; clear n0 n1 n2 n3 n4 n5 n6; (have HAP := (NT.below BB).ns.ap OG (Nat.le_refl _)); (have hbs := (NT.below BB).lt); (replace OG := ownK_le (base' := w.heap.size + 1) OG hbs); (replace BB := BB.trans (hb.mono BB.size)); clear hb; obtain ⟨n0, n1, n2, n3, n4, n5, n6⟩ := id (NT.below BB).1
                      (try go_wp2_with fail)
                      refine hK.out _ _ ?_ (fun hHeld => ?_)
                      · first | exact ⟨n1, n2, n3⟩ | (simp (maxDischargeDepth := 6) [go_sem, *]; done)
                      clear hK K
                      (try simp only [Act.put, List.setIfInBounds_toArray, List.set_cons_zero, List.set_cons_succ])
                      refine wpAnyH_take (i := 9) (v := ?_) (by rw [List.getElem?_toArray]; rfl) (by kernel_rfl) (by kernel_rfl) (by kernel_rfl) (by intro _ _ _ h; exact h) (Or.inl ⟨by rfl, ?_⟩) (by assumption) ?_
                      rotate_left
                      · (intro w hSw; (try dsimp only at hSw); go_simp; all_goals with_reducible rfl)
                      (try simp only [Act.put, List.setIfInBounds_toArray, List.set_cons_zero, List.set_cons_succ])
                      refine wpAnyH_take (i := 10) (v := ?_) (by rw [List.getElem?_toArray]; rfl) (by kernel_rfl) (by kernel_rfl) (by kernel_rfl) (by intro _ _ _ h; exact h) (Or.inl ⟨by rfl, ?_⟩) (by assumption) ?_
                      rotate_left
                      · (intro w hSw; (try dsimp only at hSw); go_simp; all_goals with_reducible rfl)
                      (try simp only [Act.put, List.setIfInBounds_toArray, List.set_cons_zero, List.set_cons_succ])
                      refine wpAnyH_take (i := 11) (v := ?_) (by rw [List.getElem?_toArray]; rfl) (by kernel_rfl) (by kernel_rfl) (by kernel_rfl) (by intro _ _ _ h; exact h) (Or.inl ⟨by rfl, ?_⟩) (by assumption) ?_
                      rotate_left
                      · (intro w hSw; (try dsimp only at hSw); go_simp; all_goals with_reducible rfl)
                      (try simp only [Act.put, List.setIfInBounds_toArray, List.set_cons_zero, List.set_cons_succ])
                      refine wpAnyH_take (i := 12) (v := ?_) (by rw [List.getElem?_toArray]; rfl) (by kernel_rfl) (by kernel_rfl) (by kernel_rfl) (by intro _ _ _ h; exact h) (Or.inl ⟨by rfl, ?_⟩) (by assumption) ?_
                      rotate_left
                      · (intro w hSw; (try dsimp only at hSw); go_simp; all_goals with_reducible rfl)
                      (try simp only [Act.put, List.setIfInBounds_toArray, List.set_cons_zero, List.set_cons_succ])
                      refine wpAnyH_ready (rs := [13]) (by kernel_rfl) (by simp) ?_
                      refine (AllReadyH.cons (by rw [List.getElem?_toArray]; rfl) (fun K hK => ?_) AllReadyH.nil)
                      go_simp
                      (have N := Bx3.new v1 (.int .i64 0) (.int .i64 0) (.slice none 0 0) 26); (have A := Below.nw v1 (.cells #[.int .i64 0, .int .i64 0, .slice none 0 0] 26)); (have hjj : v.heap.size ≤ v1.heap.size := BB.size); (have hne : w.heap.size ≠ v1.heap.size := by have := (NT.below BB).lt; omega); (have hne' := Ne.symm hne); (replace BB := BB.trans (A.mono BB.size)); (have hvj : v1.heap.size < (v1.alloc (.cells #[.int .i64 0, .int .i64 0, .slice none 0 0] 26)).heap.size := N.1); (have HNE : ∀ g, (Value.slice aa mm cc).ownBlock = some g → g ≠ v1.heap.size := fun g hg => by have := (World.ownsRow.lt OG g hg).2; omega); (replace OG := own_belK' OG A); clear n0 n1 n2 n3 n4 n5 n6; clear A; (generalize v1.alloc (.cells #[.int .i64 0, .int .i64 0, .slice none 0 0] 26) = v2 at *); obtain ⟨n0, n1, n2, n3, n4, n5, n6⟩ := id (NT.below BB).1; obtain ⟨m0, m1, m2, m3, m4, m5, m6⟩ := id N
                      refine hK.out _ _ ?_ (fun hHeld => ?_)
                      · first | exact ⟨n1, n2, n3⟩ | (simp (maxDischargeDepth := 6) [go_sem, *]; done)
                      clear hK K
                      (try simp only [Act.put, List.setIfInBounds_toArray, List.set_cons_zero, List.set_cons_succ])
                      refine wpAnyH_ready (rs := [14]) (by kernel_rfl) (by simp) ?_
                      refine (AllReadyH.cons (by rw [List.getElem?_toArray]; rfl) (fun K hK => ?_) AllReadyH.nil)
                      go_simp
                      refine hK.out _ _ ?_ (fun hHeld => ?_)
                      · first | exact ⟨n1, n2, n3⟩ | (simp (maxDischargeDepth := 6) [go_sem, *]; done)
                      clear hK K
                      (try simp only [Act.put, List.setIfInBounds_toArray, List.set_cons_zero, List.set_cons_succ])
                      refine wpAnyH_take (i := 15) (v := ?_) (by rw [List.getElem?_toArray]; rfl) (by kernel_rfl) (by kernel_rfl) (by kernel_rfl) (by intro _ _ _ h; exact h) (Or.inl ⟨by rfl, ?_⟩) (by assumption) ?_
                      rotate_left
                      · (intro w hSw; (try dsimp only at hSw); go_simp; all_goals with_reducible rfl)
                      (try simp only [Act.put, List.setIfInBounds_toArray, List.set_cons_zero, List.set_cons_succ])
                      refine wpAnyH_take (i := 16) (v := ?_) (by rw [List.getElem?_toArray]; rfl) (by kernel_rfl) (by kernel_rfl) (by kernel_rfl) (by intro _ _ _ h; exact h) (Or.inl ⟨by rfl, ?_⟩) (by assumption) ?_
                      rotate_left
                      · (intro w hSw; (try dsimp only at hSw); go_simp; all_goals with_reducible rfl)
                      (try simp only [Act.put, List.setIfInBounds_toArray, List.set_cons_zero, List.set_cons_succ])
                      refine wpAnyH_done (by kernel_rfl) ?_ _
                      go_wp2_with fail
                      go_meet
                      case rel => exact ⟨_, aa, cc, rfl, rfl, rfl, N.set _ _ _, own_neK OG (put3_butK _ _ _ _ _) HNE, HAP, J7.below (((BB.setCell hjj _).setCell hjj _).setCell hjj _), NT.below (((BB.setCell hjj _).setCell hjj _).setCell hjj _)⟩
                    · go_simp
                      (have N := Bx3.new v (.int .i64 0) (.int .i64 0) (.slice none 0 0) 26); (have A := Below.nw v (.cells #[.int .i64 0, .int .i64 0, .slice none 0 0] 26)); (have hjj : v.heap.size ≤ v.heap.size := BB.size); (have hne : w.heap.size ≠ v.heap.size := by have := (NT.below BB).lt; omega); (have hne' := Ne.symm hne); (replace BB := BB.trans (A.mono BB.size)); (have hvj : v.heap.size < (v.alloc (.cells #[.int .i64 0, .int .i64 0, .slice none 0 0] 26)).heap.size := N.1); clear n0 n1 n2 n3 n4 n5 n6; clear A; (generalize v.alloc (.cells #[.int .i64 0, .int .i64 0, .slice none 0 0] 26) = v2 at *); obtain ⟨n0, n1, n2, n3, n4, n5, n6⟩ := id (NT.below BB).1; obtain ⟨m0, m1, m2, m3, m4, m5, m6⟩ := id N
                      refine hK.out _ _ ?_ (fun hHeld => ?_)
                      · first | exact ⟨n1, n2, n3⟩ | (simp (maxDischargeDepth := 6) [go_sem, *]; done)
                      clear hK K
                      (try simp only [Act.put, List.setIfInBounds_toArray, List.set_cons_zero, List.set_cons_succ])
                      refine wpAnyH_ready (rs := [8]) (by kernel_rfl) (by simp) ?_
                      refine (AllReadyH.cons (by rw [List.getElem?_toArray]; rfl) (fun K hK => ?_) AllReadyH.nil)
                      go_simp
                      refine (CI _ _ _ _ (NT.below BB).2.1).mono ?_; rintro e v1 ⟨aa, cc, rfl, OG, hb⟩; clear n0 n1 n2 n3 n4 n5 n6; clear m0 m1 m2 m3 m4 m5 m6; (replace N := N.below hb); (have HNE : ∀ g, (Value.slice aa mm cc).ownBlock = some g → g ≠ v.heap.size := fun g hg => by have := (World.ownsRow.lt OG g hg).1; omega); (have HAP := (NT.below BB).ns.ap OG (Nat.le_refl _)); (have hbs := (NT.below BB).lt); (replace OG := ownK_le (base' := w.heap.size + 1) OG hbs); (replace BB := BB.trans (hb.mono BB.size)); clear hb; obtain ⟨n0, n1, n2, n3, n4, n5, n6⟩ := id (NT.below BB).1; obtain ⟨m0, m1, m2, m3, m4, m5, m6⟩ := id N
                      (try go_wp2_with fail)
                      refine hK.out _ _ ?_ (fun hHeld => ?_)
                      · first | exact ⟨n1, n2, n3⟩ | (simp (maxDischargeDepth := 6) [go_sem, *]; done)
                      clear hK K
                      (try simp only [Act.put, List.setIfInBounds_toArray, List.set_cons_zero, List.set_cons_succ])
                      refine wpAnyH_take (i := 9) (v := ?_) (by rw [List.getElem?_toArray]; rfl) (by kernel_rfl) (by kernel_rfl) (by kernel_rfl) (by intro _ _ _ h; exact h) (Or.inl ⟨by rfl, ?_⟩) (by assumption) ?_
                      rotate_left
                      · (intro w hSw; (try dsimp only at hSw); go_simp; all_goals with_reducible rfl)
                      (try simp only [Act.put, List.setIfInBounds_toArray, List.set_cons_zero, List.set_cons_succ])
                      refine wpAnyH_take (i := 10) (v := ?_) (by rw [List.getElem?_toArray]; rfl) (by kernel_rfl) (by kernel_rfl) (by kernel_rfl) (by intro _ _ _ h; exact h) (Or.inl ⟨by rfl, ?_⟩) (by assumption) ?_
                      rotate_left
                      · (intro w hSw; (try dsimp only at hSw); go_simp; all_goals with_reducible rfl)
                      (try simp only [Act.put, List.setIfInBounds_toArray, List.set_cons_zero, List.set_cons_succ])
                      refine wpAnyH_take (i := 11) (v := ?_) (by rw [List.getElem?_toArray]; rfl) (by kernel_rfl) (by kernel_rfl) (by kernel_rfl) (by intro _ _ _ h; exact h) (Or.inl ⟨by rfl, ?_⟩) (by assumption) ?_
                      rotate_left
                      · (intro w hSw; (try dsimp only at hSw); go_simp; all_goals with_reducible rfl)
                      (try simp only [Act.put, List.setIfInBounds_toArray, List.set_cons_zero, List.set_cons_succ])
                      refine wpAnyH_take (i := 12) (v := ?_) (by rw [List.getElem?_toArray]; rfl) (by kernel_rfl) (by kernel_rfl) (by kernel_rfl) (by intro _ _ _ h; exact h) (Or.inl ⟨by rfl, ?_⟩) (by assumption) ?_
                      rotate_left
                      · (intro w hSw; (try dsimp only at hSw); go_simp; all_goals with_reducible rfl)
                      (try simp only [Act.put, List.setIfInBounds_toArray, List.set_cons_zero, List.set_cons_succ])
                      refine wpAnyH_ready (rs := [14]) (by kernel_rfl) (by simp) ?_
                      refine (AllReadyH.cons (by rw [List.getElem?_toArray]; rfl) (fun K hK => ?_) AllReadyH.nil)
                      go_simp
                      refine hK.out _ _ ?_ (fun hHeld => ?_)
                      · first | exact ⟨n1, n2, n3⟩ | (simp (maxDischargeDepth := 6) [go_sem, *]; done)
                      clear hK K
                      (try simp only [Act.put, List.setIfInBounds_toArray, List.set_cons_zero, List.set_cons_succ])
                      refine wpAnyH_take (i := 15) (v := ?_) (by rw [List.getElem?_toArray]; rfl) (by kernel_rfl) (by kernel_rfl) (by kernel_rfl) (by intro _ _ _ h; exact h) (Or.inl ⟨by rfl, ?_⟩) (by assumption) ?_
                      rotate_left
                      · (intro w hSw; (try dsimp only at hSw); go_simp; all_goals with_reducible rfl)
                      (try simp only [Act.put, List.setIfInBounds_toArray, List.set_cons_zero, List.set_cons_succ])
                      refine wpAnyH_take (i := 16) (v := ?_) (by rw [List.getElem?_toArray]; rfl) (by kernel_rfl) (by kernel_rfl) (by kernel_rfl) (by intro _ _ _ h; exact h) (Or.inl ⟨by rfl, ?_⟩) (by assumption) ?_
                      rotate_left
                      · (intro w hSw; (try dsimp only at hSw); go_simp; all_goals with_reducible rfl)
                      (try simp only [Act.put, List.setIfInBounds_toArray, List.set_cons_zero, List.set_cons_succ])
                      refine wpAnyH_done (by kernel_rfl) ?_ _
                      go_wp2_with fail
                      go_meet
                      case rel => exact ⟨_, aa, cc, rfl, rfl, rfl, N.set _ _ _, own_neK OG (put3_butK _ _ _ _ _) HNE, HAP, J7.below (((BB.setCell hjj _).setCell hjj _).setCell hjj _), NT.below (((BB.setCell hjj _).setCell hjj _).setCell hjj _)⟩
                  · go_simp
                    (have N := Bx3.new v (.int .i64 0) (.int .i64 0) (.slice none 0 0) 26); (have A := Below.nw v (.cells #[.int .i64 0, .int .i64 0, .slice none 0 0] 26)); (have hjj : v.heap.size ≤ v.heap.size := BB.size); (have hne : w.heap.size ≠ v.heap.size := by have := (NT.below BB).lt; omega); (have hne' := Ne.symm hne); (replace BB := BB.trans (A.mono BB.size)); (have hvj : v.heap.size < (v.alloc (.cells #[.int .i64 0, .int .i64 0, .slice none 0 0] 26)).heap.size := N.1); clear n0 n1 n2 n3 n4 n5 n6; clear A; (generalize v.alloc (.cells #[.int .i64 0, .int .i64 0, .slice none 0 0] 26) = v2 at *); obtain ⟨n0, n1, n2, n3, n4, n5, n6⟩ := id (NT.below BB).1; obtain ⟨m0, m1, m2, m3, m4, m5, m6⟩ := id N
                    refine hK.out _ _ ?_ (fun hHeld => ?_)
                    · first | exact ⟨n1, n2, n3⟩ | (simp (maxDischargeDepth := 6) [go_sem, *]; done)
                    clear hK K
                    (try simp only [Act.put, List.setIfInBounds_toArray, List.set_cons_zero, List.set_cons_succ])
                    refine wpAnyH_ready (rs := [5]) (by kernel_rfl) (by simp) ?_
                    refine (AllReadyH.cons (by rw [List.getElem?_toArray]; rfl) (fun K hK => ?_) AllReadyH.nil)
                    go_simp
                    refine (AZ2 _ (NT.below BB).bw).mono ?_; rintro e w' ⟨rfl, rfl⟩
                    (try go_wp2_with fail)
                    refine hK.out _ _ ?_ (fun hHeld => ?_)
                    · first | exact ⟨n1, n2, n3⟩ | (simp (maxDischargeDepth := 6) [go_sem, *]; done)
                    clear hK K
                    (try simp only [Act.put, List.setIfInBounds_toArray, List.set_cons_zero, List.set_cons_succ])
                    refine wpAnyH_take (i := 6) (v := ?_) (by rw [List.getElem?_toArray]; rfl) (by kernel_rfl) (by kernel_rfl) (by kernel_rfl) (by intro _ _ _ h; exact h) (Or.inl ⟨by rfl, ?_⟩) (by assumption) ?_
                    rotate_left
                    · (intro w hSw; (try dsimp only at hSw); go_simp; all_goals with_reducible rfl)
                    (try simp only [Act.put, List.setIfInBounds_toArray, List.set_cons_zero, List.set_cons_succ])
                    refine wpAnyH_ready (rs := [8]) (by kernel_rfl) (by simp) ?_
                    refine (AllReadyH.cons (by rw [List.getElem?_toArray]; rfl) (fun K hK => ?_) AllReadyH.nil)
                    go_simp
                    refine (CI _ _ _ _ (NT.below BB).2.1).mono ?_; rintro e v1 ⟨aa, cc, rfl, OG, hb⟩; clear n0 n1 n2 n3 n4 n5 n6; clear m0 m1 m2 m3 m4 m5 m6; (replace N := N.below hb); (have HNE : ∀ g, (Value.slice aa mm cc).ownBlock = some g → g ≠ v.heap.size := fun g hg => by have := (World.ownsRow.lt OG g hg).1; omega); (have HAP := (NT.below BB).ns.ap OG (Nat.le_refl _)); (have hbs := (NT.below BB).lt); (replace OG := ownK_le (base' := w.heap.size + 1) OG hbs); (replace BB := BB.trans (hb.mono BB.size)); clear hb; obtain ⟨n0, n1, n2, n3, n4, n5, n6⟩ := id (NT.below BB).1; obtain ⟨m0, m1, m2, m3, m4, m5, m6⟩ := id N
                    (try go_wp2_with fail)
                    refine hK.out _ _ ?_ (fun hHeld => ?_)
                    · first | exact ⟨n1, n2, n3⟩ | (simp (maxDischargeDepth := 6) [go_sem, *]; done)
                    clear hK K
                    (try simp only [Act.put, List.setIfInBounds_toArray, List.set_cons_zero, List.set_cons_succ])
                    refine wpAnyH_take (i := 9) (v := ?_) (by rw [List.getElem?_toArray]; rfl) (by kernel_rfl) (by kernel_rfl) (by kernel_rfl) (by intro _ _ _ h; exact h) (Or.inl ⟨by rfl, ?_⟩) (by assumption) ?_
                    rotate_left
                    · (intro w hSw; (try dsimp only at hSw); go_simp; all_goals with_reducible rfl)
                    (try simp only [Act.put, List.setIfInBounds_toArray, List.set_cons_zero, List.set_cons_succ])
                    refine wpAnyH_take (i := 10) (v := ?_) (by rw [List.getElem?_toArray]; rfl) (by kernel_rfl) (by kernel_rfl) (by kernel_rfl) (by intro _ _ _ h; exact h) (Or.inl ⟨by rfl, ?_⟩) (by assumption) ?_
                    rotate_left
                    · (intro w hSw; (try dsimp only at hSw); go_simp; all_goals with_reducible rfl)
                    (try simp only [Act.put, List.setIfInBounds_toArray, List.set_cons_zero, List.set_cons_succ])
                    refine wpAnyH_take (i := 11) (v := ?_) (by rw [List.getElem?_toArray]; rfl) (by kernel_rfl) (by kernel_rfl) (by kernel_rfl) (by intro _ _ _ h; exact h) (Or.inl ⟨by rfl, ?_⟩) (by assumption) ?_
                    rotate_left
                    · (intro w hSw; (try dsimp only at hSw); go_simp; all_goals with_reducible rfl)
                    (try simp only [Act.put, List.setIfInBounds_toArray, List.set_cons_zero, List.set_cons_succ])
                    refine wpAnyH_take (i := 12) (v := ?_) (by rw [List.getElem?_toArray]; rfl) (by kernel_rfl) (by kernel_rfl) (by kernel_rfl) (by intro _ _ _ h; exact h) (Or.inl ⟨by rfl, ?_⟩) (by assumption) ?_
                    rotate_left
                    · (intro w hSw; (try dsimp only at hSw); go_simp; all_goals with_reducible rfl)
                    (try simp only [Act.put, List.setIfInBounds_toArray, List.set_cons_zero, List.set_cons_succ])
                    refine wpAnyH_ready (rs := [14]) (by kernel_rfl) (by simp) ?_
                    refine (AllReadyH.cons (by rw [List.getElem?_toArray]; rfl) (fun K hK => ?_) AllReadyH.nil)
                    go_simp
                    refine hK.out _ _ ?_ (fun hHeld => ?_)
                    · first | exact ⟨n1, n2, n3⟩ | (simp (maxDischargeDepth := 6) [go_sem, *]; done)
                    clear hK K
                    (try simp only [Act.put, List.setIfInBounds_toArray, List.set_cons_zero, List.set_cons_succ])
                    refine wpAnyH_take (i := 15) (v := ?_) (by rw [List.getElem?_toArray]; rfl) (by kernel_rfl) (by kernel_rfl) (by kernel_rfl) (by intro _ _ _ h; exact h) (Or.inl ⟨by rfl, ?_⟩) (by assumption) ?_
                    rotate_left
                    · (intro w hSw; (try dsimp only at hSw); go_simp; all_goals with_reducible rfl)
                    (try simp only [Act.put, List.setIfInBounds_toArray, List.set_cons_zero, List.set_cons_succ])
                    refine wpAnyH_take (i := 16) (v := ?_) (by rw [List.getElem?_toArray]; rfl) (by kernel_rfl) (by kernel_rfl) (by kernel_rfl) (by intro _ _ _ h; exact h) (Or.inl ⟨by rfl, ?_⟩) (by assumption) ?_
                    rotate_left
                    · (intro w hSw; (try dsimp only at hSw); go_simp; all_goals with_reducible rfl)
                    (try simp only [Act.put, List.setIfInBounds_toArray, List.set_cons_zero, List.set_cons_succ])
                    refine wpAnyH_done (by kernel_rfl) ?_ _
                    go_wp2_with fail
                    go_meet
                    case rel => exact ⟨_, aa, cc, rfl, rfl, rfl, N.set _ _ _, own_neK OG (put3_butK _ _ _ _ _) HNE, HAP, J7.below (((BB.setCell hjj _).setCell hjj _).setCell hjj _), NT.below (((BB.setCell hjj _).setCell hjj _).setCell hjj _)⟩
              case rest =>
                clear n0 n1 n2 n3 n4 n5 n6 NT J7 CI
                obtain ⟨j10, aa, cc, rfl, rfl, rfl, J10, OG, HAP, J7, NT⟩ := hcut
                generalize wc = u at *
                obtain ⟨n0, n1, n2, n3, n4, n5, n6⟩ := id NT.1
                obtain ⟨m0, m1, m2, m3, m4, m5, m6⟩ := id J10
                obtain ⟨p0, p1, p2, p3, p4, p5, p6⟩ := id J7
                have NS3 : Hid (Ns w ep Xu G mm S u4 _) := NT.ns.set (Xe := ep) (Xu := Xu) OG (Nat.le_refl _) HAP
                go_upto_region 20 with fail
                clear n0 n1 n2 n3 n4 n5 n6 m0 m1 m2 m3 m4 m5 m6 p0 p1 p2 p3 p4 p5 p6 NT J10 J7 OG HAP
                generalize (((u.setCell ⟨w.heap.size, 0, none⟩ (.int .i64 ep)).setCell ⟨w.heap.size, 1, none⟩ (.int .i64 Xu)).setCell ⟨w.heap.size, 2, none⟩ (.slice aa mm cc)) = u2 at *
                rcases HCase.out with ⟨h1, h2, h3⟩ | ⟨h1, h3⟩
                · subst h1 h2 h3
                  have OV := NS3.out.seen
                  have hbs := NS3.out.bw.size
                  have hSl2 : S.length ≤ 100000 := by omega
                  have hbs2 : w.heap.size + 1 ≤ u2.heap.size := by obtain ⟨_, _, q, _⟩ := NS3.out; exact q.1
                  go_upto_region 35 with (at_builtin; refine add_int rfl _ _ rfl (w.heap.size + 1) S _ rfl OV rfl hSl2 hbs2 ?_; intro v' w9 O9 hg9 hn9)
                  have NS4 : Ns w ep (us + 1) G mm (S ++ [ep * 1000 + us]) v' w9 := NS3.out.add O9 hg9 hn9
                  have HSN : Hid (SeenOk ep (us + 1) (S ++ [ep * 1000 + us])) := HSeen.out.add (by omega)
                  have hSl3 : (S ++ [ep * 1000 + us]).length ≤ 17 * (k + 1) := by simp; omega
                  clear OV O9 hg9 hn9 NS3 hbs hbs2 hSl2
                  have NS3 := NS4
                  clear NS4
                  generalize S ++ [ep * 1000 + us] = S9 at *
                  obtain ⟨ta3, tc3, NT0⟩ := NS3
                  have NT3 : Nt w ep (us + 1) G mm ta3 tc3 S9 _ _ := NT0
                  clear NT0
                  have CTK := fun (w' : World) (h : w'.ownsRow (w.heap.size + 1) 34 4 (.slice ta3 mm tc3) mm (krow G mm)) => implTableOk_any ep (us + 1) ta3 mm tc3 G w' (by have := (tab_nums HT3.out).2.2.1; unfold maxLen; omega) (own_srcK h) (tab_nums HT3.out).2.2.2
                  simp only [HT3.out] at CTK
                  obtain ⟨n0, n1, n2, n3, n4, n5, n6⟩ := id NT3.1
                  go_wp2_with fail
                  refine (CTK _ NT3.2.1).mono ?_
                  rintro e u9 ⟨rfl, hb⟩
                  clear n0 n1 n2 n3 n4 n5 n6
                  replace NT3 := NT3.below hb
                  clear hb CTK
                  go_wp2_with fail
                  go_roundw
                  case rel => exact ⟨k + 1, ep, (us + 1), t9, G, mm, S9, by omega, by go_num, rfl, ⟨by omega, by omega⟩, by omega, HT3.out, HSN.out, hSl3, NT3.ns⟩
                  case measure => simp [intOf]; omega
                · subst h3
                  have NS4 := NS3.out
                  clear NS3
                  have NS3 := NS4
                  clear NS4
                  have hC : (C1 == 0) = false := by rcases h1 with h1 | h1 <;> (subst h1; rfl)
                  clear h1
                  obtain ⟨ta3, tc3, NT0⟩ := NS3
                  have NT3 : Nt w ep Xu G mm ta3 tc3 S _ _ := NT0
                  clear NT0
                  have CTK := fun (w' : World) (h : w'.ownsRow (w.heap.size + 1) 34 4 (.slice ta3 mm tc3) mm (krow G mm)) => implTableOk_any ep Xu ta3 mm tc3 G w' (by have := (tab_nums HT3.out).2.2.1; unfold maxLen; omega) (own_srcK h) (tab_nums HT3.out).2.2.2
                  simp only [HT3.out] at CTK
                  obtain ⟨n0, n1, n2, n3, n4, n5, n6⟩ := id NT3.1
                  go_wp2_with fail
                  refine (CTK _ NT3.2.1).mono ?_
                  rintro e u9 ⟨rfl, hb⟩
                  clear n0 n1 n2 n3 n4 n5 n6
                  replace NT3 := NT3.below hb
                  clear hb CTK
                  go_wp2_with fail
                  go_roundw
                  case rel => exact ⟨k + 1, ep, Xu, t9, G, mm, S, by omega, by go_num, rfl, ⟨by omega, by omega⟩, by omega, HT3.out, HSeen.out, by omega, NT3.ns⟩
                  case measure => simp [intOf]; omega
        · have hr2' : decide (r ≤ 2) = false := decide_eq_false hr2
          rw [hr2']
          by_cases c3 : r = 3
          · subst c3
            as_aux_lemma =>
              obtain ⟨U, TL, CL, LL, CS, CI, hT3, hU1, hU2, hCl, hCb, hCa⟩ := again_two HTab.out htm htm2
              have HT3 : Hid (tabB ep U (rowL TL) TL.length = true) := hT3
              have HCb : Hid ((∀ b, b ∈ CL → ep * 1000 + us ≤ b.1 ∧ b.1 < ep * 1000 + U) ∧ AscK CL) := ⟨hCb, hCa⟩
              clear hT3 hCb hCa
              obtain ⟨n0, n1, n2, n3, n4, n5, n6⟩ := id NT.1
              go_upto_region 23 with fail
              generalize wr = u at *
              go_cut [13, 14, 15] (fun s13 s14 s15 wx => ∃ (j13 : Nat) (a3 : Option Addr) (c3 : Nat) (a4 : Option Addr) (c4 : Nat), s13 = .pointer (some ⟨j13, 0, none⟩) ∧ s14 = .slice a4 CL.length c4 ∧ Bx3 wx j13 (.int .i64 ep) (.int .i64 U) (.slice a3 TL.length c3) ∧ wx.ownsRow (w.heap.size + 1) 34 4 (.slice a3 TL.length c3) TL.length (krow (rowL TL) TL.length) ∧ wx.ownsRow (w.heap.size + 1) 34 4 (.slice a4 CL.length c4) CL.length (krow (rowL CL) CL.length) ∧ Ap (.slice a3 TL.length c3) u4 ∧ Ap (.slice a4 CL.length c4) u4 ∧ Nt w ep us M n ta tc S u4 wx)
              case first =>
                as_aux_lemma =>
                  refine wp_region_held_drew (S := (fun w' => w'.cell? ⟨w.heap.size, 0, none⟩ = some (.int .i64 ep) ∧ w'.cell? ⟨w.heap.size, 1, none⟩ = some (.int .i64 us) ∧ w'.cell? ⟨w.heap.size, 2, none⟩ = some (.slice ta n tc))) (by kernel_rfl) ?_ (fun hHeld => ?_)
                  · first | exact ⟨n1, n2, n3⟩ | (simp (maxDischargeDepth := 6) [go_sem, *]; done)
                  clear n0 n1 n2 n3 n4 n5 n6
                  replace NT := NT.drew
                  generalize u.drew = v at *
                  have BB := Below.refl v.heap.size v
                  obtain ⟨n0, n1, n2, n3, n4, n5, n6⟩ := id NT.1
                  refine wpAnyH_take (i := 0) (v := ?_) (by rw [List.getElem?_toArray]; rfl) (by kernel_rfl) (by kernel_rfl) (by kernel_rfl) (by intro _ _ _ h; exact h) (Or.inl ⟨by rfl, ?_⟩) (by assumption) ?_
                  rotate_left
                  · (intro w hSw; (try dsimp only at hSw); go_simp; all_goals with_reducible rfl)
                  (try simp only [Act.put, List.setIfInBounds_toArray, List.set_cons_zero, List.set_cons_succ])
                  refine wpAnyH_take (i := 1) (v := ?_) (by rw [List.getElem?_toArray]; rfl) (by kernel_rfl) (by kernel_rfl) (by kernel_rfl) (by intro _ _ _ h; exact h) (Or.inl ⟨by rfl, ?_⟩) (by assumption) ?_
                  rotate_left
                  · (intro w hSw; (try dsimp only at hSw); go_simp; all_goals with_reducible rfl)
                  (try simp only [Act.put, List.setIfInBounds_toArray, List.set_cons_zero, List.set_cons_succ])
                  refine wpAnyH_take (i := 2) (v := ?_) (by rw [List.getElem?_toArray]; rfl) (by kernel_rfl) (by kernel_rfl) (by kernel_rfl) (by intro _ _ _ h; exact h) (Or.inl ⟨by rfl, ?_⟩) (by assumption) ?_
                  rotate_left
                  · (intro w hSw; (try dsimp only at hSw); go_simp; all_goals with_reducible rfl)
                  (try simp only [Act.put, List.setIfInBounds_toArray, List.set_cons_zero, List.set_cons_succ])
                  refine wpAnyH_take (i := 3) (v := ?_) (by rw [List.getElem?_toArray]; rfl) (by kernel_rfl) (by kernel_rfl) (by kernel_rfl) (by intro _ _ _ h; exact h) (Or.inl ⟨by rfl, ?_⟩) (by assumption) ?_
                  rotate_left
                  · (intro w hSw; (try dsimp only at hSw); go_simp; all_goals with_reducible rfl)
                  (try simp only [Act.put, List.setIfInBounds_toArray, List.set_cons_zero, List.set_cons_succ])
                  refine wpAnyH_take (i := 4) (v := ?_) (by rw [List.getElem?_toArray]; rfl) (by kernel_rfl) (by kernel_rfl) (by kernel_rfl) (by intro _ _ _ h; exact h) (Or.inl ⟨by rfl, ?_⟩) (by assumption) ?_
                  rotate_left
                  · (intro w hSw; (try dsimp only at hSw); go_simp; all_goals with_reducible rfl)
                  (try simp only [Act.put, List.setIfInBounds_toArray, List.set_cons_zero, List.set_cons_succ])
                  refine wpAnyH_take (i := 5) (v := ?_) (by rw [List.getElem?_toArray]; rfl) (by kernel_rfl) (by kernel_rfl) (by kernel_rfl) (by intro _ _ _ h; exact h) (Or.inl ⟨by rfl, ?_⟩) (by assumption) ?_
                  rotate_left
                  · (intro w hSw; (try dsimp only at hSw); go_simp; all_goals with_reducible rfl)
                  (try simp only [Act.put, List.setIfInBounds_toArray, List.set_cons_zero, List.set_cons_succ])
                  refine wpAnyH_ready (rs := [6, 13]) (by kernel_rfl) (by simp) ?_
                  refine (AllReadyH.cons (by rw [List.getElem?_toArray]; rfl) (fun K hK => ?_) (AllReadyH.cons (by rw [List.getElem?_toArray]; rfl) (fun K hK => ?_) AllReadyH.nil))
                  · go_simp
                    refine (AZ2 _ (NT.below BB).bw).mono ?_; rintro e w' ⟨rfl, rfl⟩
                    (try go_wp2_with fail)
                    refine hK.out _ _ ?_ (fun hHeld => ?_)
                    · first | exact ⟨n1, n2, n3⟩ | (simp (maxDischargeDepth := 6) [go_sem, *]; done)
                    clear hK K
                    (try simp only [Act.put, List.setIfInBounds_toArray, List.set_cons_zero, List.set_cons_succ])
                    refine wpAnyH_take (i := 7) (v := ?_) (by rw [List.getElem?_toArray]; rfl) (by kernel_rfl) (by kernel_rfl) (by kernel_rfl) (by intro _ _ _ h; exact h) (Or.inl ⟨by rfl, ?_⟩) (by assumption) ?_
                    rotate_left
                    · (intro w hSw; (try dsimp only at hSw); go_simp; all_goals with_reducible rfl)
                    (try simp only [Act.put, List.setIfInBounds_toArray, List.set_cons_zero, List.set_cons_succ])
                    refine wpAnyH_ready (rs := [8, 13]) (by kernel_rfl) (by simp) ?_
                    refine (AllReadyH.cons (by rw [List.getElem?_toArray]; rfl) (fun K hK => ?_) (AllReadyH.cons (by rw [List.getElem?_toArray]; rfl) (fun K hK => ?_) AllReadyH.nil))
                    · go_simp
                      refine (CI _ _ _ _ (NT.below BB).2.1).mono ?_; rintro e v1 ⟨a3, c3, a4, c4, a5, c5, rfl, OG, OC, hb⟩; clear n0 n1 n2 n3 n4 n5 n6; (have HAP := (NT.below BB).ns.ap OG (Nat.le_refl _)); (have HAQ := (NT.below BB).ns.ap OC (Nat.le_refl _)); (have hbs := (NT.below BB).lt); (replace OG := ownK_le (base' := w.heap.size + 1) OG hbs); (replace OC := ownK_le (base' := w.heap.size + 1) OC hbs); (replace BB := BB.trans (hb.mono BB.size)); clear hb; obtain ⟨n0, n1, n2, n3, n4, n5, n6⟩ := id (NT.below BB).1
                      (try go_wp2_with fail)
                      refine hK.out _ _ ?_ (fun hHeld => ?_)
                      · first | exact ⟨n1, n2, n3⟩ | (simp (maxDischargeDepth := 6) [go_sem, *]; done)
                      clear hK K
                      (try simp only [Act.put, List.setIfInBounds_toArray, List.set_cons_zero, List.set_cons_succ])
                      refine wpAnyH_take (i := 9) (v := ?_) (by rw [List.getElem?_toArray]; rfl) (by kernel_rfl) (by kernel_rfl) (by kernel_rfl) (by intro _ _ _ h; exact h) (Or.inl ⟨by rfl, ?_⟩) (by assumption) ?_
                      rotate_left
                      · (intro w hSw; (try dsimp only at hSw); go_simp; all_goals with_reducible rfl)
                      (try simp only [Act.put, List.setIfInBounds_toArray, List.set_cons_zero, List.set_cons_succ])
                      refine wpAnyH_take (i := 10) (v := ?_) (by rw [List.getElem?_toArray]; rfl) (by kernel_rfl) (by kernel_rfl) (by kernel_rfl) (by intro _ _ _ h; exact h) (Or.inl ⟨by rfl, ?_⟩) (by assumption) ?_
                      rotate_left
                      · (intro w hSw; (try dsimp only at hSw); go_simp; all_goals with_reducible rfl)
                      (try simp only [Act.put, List.setIfInBounds_toArray, List.set_cons_zero, List.set_cons_succ])
                      refine wpAnyH_take (i := 11) (v := ?_) (by rw [List.getElem?_toArray]; rfl) (by kernel_rfl) (by kernel_rfl) (by kernel_rfl) (by intro _ _ _ h; exact h) (Or.inl ⟨by rfl, ?_⟩) (by assumption) ?_
                      rotate_left
                      · (intro w hSw; (try dsimp only at hSw); go_simp; all_goals with_reducible rfl)
                      (try simp only [Act.put, List.setIfInBounds_toArray, List.set_cons_zero, List.set_cons_succ])
                      refine wpAnyH_take (i := 12) (v := ?_) (by rw [List.getElem?_toArray]; rfl) (by kernel_rfl) (by kernel_rfl) (by kernel_rfl) (by intro _ _ _ h; exact h) (Or.inl ⟨by rfl, ?_⟩) (by assumption) ?_
                      rotate_left
                      · (intro w hSw; (try dsimp only at hSw); go_simp; all_goals with_reducible rfl)
                      (try simp only [Act.put, List.setIfInBounds_toArray, List.set_cons_zero, List.set_cons_succ])
                      refine wpAnyH_ready (rs := [13]) (by kernel_rfl) (by simp) ?_
                      refine (AllReadyH.cons (by rw [List.getElem?_toArray]; rfl) (fun K hK => ?_) AllReadyH.nil)
                      go_simp
                      (have N := Bx3.new v1 (.int .i64 0) (.int .i64 0) (.slice none 0 0) 26); (have A := Below.nw v1 (.cells #[.int .i64 0, .int .i64 0, .slice none 0 0] 26)); (have hjj : v.heap.size ≤ v1.heap.size := BB.size); (have hne : w.heap.size ≠ v1.heap.size := by have := (NT.below BB).lt; omega); (have hne' := Ne.symm hne); (replace BB := BB.trans (A.mono BB.size)); (have hvj : v1.heap.size < (v1.alloc (.cells #[.int .i64 0, .int .i64 0, .slice none 0 0] 26)).heap.size := N.1); (have HNE : ∀ g, (Value.slice a3 TL.length c3).ownBlock = some g → g ≠ v1.heap.size := fun g hg => by have := (World.ownsRow.lt OG g hg).2; omega); (have HNF : ∀ g, (Value.slice a4 CL.length c4).ownBlock = some g → g ≠ v1.heap.size := fun g hg => by have := (World.ownsRow.lt OC g hg).2; omega); (replace OG := own_belK' OG A); (replace OC := own_belK' OC A); clear n0 n1 n2 n3 n4 n5 n6; clear A; (generalize v1.alloc (.cells #[.int .i64 0, .int .i64 0, .slice none 0 0] 26) = v2 at *); obtain ⟨n0, n1, n2, n3, n4, n5, n6⟩ := id (NT.below BB).1; obtain ⟨m0, m1, m2, m3, m4, m5, m6⟩ := id N
                      refine hK.out _ _ ?_ (fun hHeld => ?_)
                      · first | exact ⟨n1, n2, n3⟩ | (simp (maxDischargeDepth := 6) [go_sem, *]; done)
                      clear hK K
                      (try simp only [Act.put, List.setIfInBounds_toArray, List.set_cons_zero, List.set_cons_succ])
                      refine wpAnyH_ready (rs := [14]) (by kernel_rfl) (by simp) ?_
                      refine (AllReadyH.cons (by rw [List.getElem?_toArray]; rfl) (fun K hK => ?_) AllReadyH.nil)
                      go_simp
                      refine hK.out _ _ ?_ (fun hHeld => ?_)
                      · first | exact ⟨n1, n2, n3⟩ | (simp (maxDischargeDepth := 6) [go_sem, *]; done)
                      clear hK K
                      (try simp only [Act.put, List.setIfInBounds_toArray, List.set_cons_zero, List.set_cons_succ])
                      refine wpAnyH_take (i := 15) (v := ?_) (by rw [List.getElem?_toArray]; rfl) (by kernel_rfl) (by kernel_rfl) (by kernel_rfl) (by intro _ _ _ h; exact h) (Or.inl ⟨by rfl, ?_⟩) (by assumption) ?_
                      rotate_left
                      · (intro w hSw; (try dsimp only at hSw); go_simp; all_goals with_reducible rfl)
                      (try simp only [Act.put, List.setIfInBounds_toArray, List.set_cons_zero, List.set_cons_succ])
                      refine wpAnyH_take (i := 16) (v := ?_) (by rw [List.getElem?_toArray]; rfl) (by kernel_rfl) (by kernel_rfl) (by kernel_rfl) (by intro _ _ _ h; exact h) (Or.inl ⟨by rfl, ?_⟩) (by assumption) ?_
                      rotate_left
                      · (intro w hSw; (try dsimp only at hSw); go_simp; all_goals with_reducible rfl)
                      (try simp only [Act.put, List.setIfInBounds_toArray, List.set_cons_zero, List.set_cons_succ])
                      refine wpAnyH_done (by kernel_rfl) ?_ _
                      go_wp2_with fail
                      go_meet
                      case rel => exact ⟨_, a3, c3, a4, c4, rfl, rfl, N.set _ _ _, own_neK OG (put3_butK _ _ _ _ _) HNE, own_neK OC (put3_butK _ _ _ _ _) HNF, HAP, HAQ, NT.below (((BB.setCell hjj _).setCell hjj _).setCell hjj _)⟩
                    · go_simp
                      (have N := Bx3.new v (.int .i64 0) (.int .i64 0) (.slice none 0 0) 26); (have A := Below.nw v (.cells #[.int .i64 0, .int .i64 0, .slice none 0 0] 26)); (have hjj : v.heap.size ≤ v.heap.size := BB.size); (have hne : w.heap.size ≠ v.heap.size := by have := (NT.below BB).lt; omega); (have hne' := Ne.symm hne); (replace BB := BB.trans (A.mono BB.size)); (have hvj : v.heap.size < (v.alloc (.cells #[.int .i64 0, .int .i64 0, .slice none 0 0] 26)).heap.size := N.1); clear n0 n1 n2 n3 n4 n5 n6; clear A; (generalize v.alloc (.cells #[.int .i64 0, .int .i64 0, .slice none 0 0] 26) = v2 at *); obtain ⟨n0, n1, n2, n3, n4, n5, n6⟩ := id (NT.below BB).1; obtain ⟨m0, m1, m2, m3, m4, m5, m6⟩ := id N
                      refine hK.out _ _ ?_ (fun hHeld => ?_)
                      · first | exact ⟨n1, n2, n3⟩ | (simp (maxDischargeDepth := 6) [go_sem, *]; done)
                      clear hK K
                      (try simp only [Act.put, List.setIfInBounds_toArray, List.set_cons_zero, List.set_cons_succ])
                      refine wpAnyH_ready (rs := [8]) (by kernel_rfl) (by simp) ?_
                      refine (AllReadyH.cons (by rw [List.getElem?_toArray]; rfl) (fun K hK => ?_) AllReadyH.nil)
                      go_simp
                      refine (CI _ _ _ _ (NT.below BB).2.1).mono ?_; rintro e v1 ⟨a3, c3, a4, c4, a5, c5, rfl, OG, OC, hb⟩; clear n0 n1 n2 n3 n4 n5 n6; clear m0 m1 m2 m3 m4 m5 m6; (replace N := N.below hb); (have HNE : ∀ g, (Value.slice a3 TL.length c3).ownBlock = some g → g ≠ v.heap.size := fun g hg => by have := (World.ownsRow.lt OG g hg).1; omega); (have HNF : ∀ g, (Value.slice a4 CL.length c4).ownBlock = some g → g ≠ v.heap.size := fun g hg => by have := (World.ownsRow.lt OC g hg).1; omega); (have HAP := (NT.below BB).ns.ap OG (Nat.le_refl _)); (have HAQ := (NT.below BB).ns.ap OC (Nat.le_refl _)); (have hbs := (NT.below BB).lt); (replace OG := ownK_le (base' := w.heap.size + 1) OG hbs); (replace OC := ownK_le (base' := w.heap.size + 1) OC hbs); (replace BB := BB.trans (hb.mono BB.size)); clear hb; obtain ⟨n0, n1, n2, n3, n4, n5, n6⟩ := id (NT.below BB).1; obtain ⟨m0, m1, m2, m3, m4, m5, m6⟩ := id N
                      (try go_wp2_with fail)
                      refine hK.out _ _ ?_ (fun hHeld => ?_)
                      · first | exact ⟨n1, n2, n3⟩ | (simp (maxDischargeDepth := 6) [go_sem, *]; done)
                      clear hK K
                      (try simp only [Act.put, List.setIfInBounds_toArray, List.set_cons_zero, List.set_cons_succ])
                      refine wpAnyH_take (i := 9) (v := ?_) (by rw [List.getElem?_toArray]; rfl) (by kernel_rfl) (by kernel_rfl) (by kernel_rfl) (by intro _ _ _ h; exact h) (Or.inl ⟨by rfl, ?_⟩) (by assumption) ?_
                      rotate_left
                      · (intro w hSw; (try dsimp only at hSw); go_simp; all_goals with_reducible rfl)
                      (try simp only [Act.put, List.setIfInBounds_toArray, List.set_cons_zero, List.set_cons_succ])
                      refine wpAnyH_take (i := 10) (v := ?_) (by rw [List.getElem?_toArray]; rfl) (by kernel_rfl) (by kernel_rfl) (by kernel_rfl) (by intro _ _ _ h; exact h) (Or.inl ⟨by rfl, ?_⟩) (by assumption) ?_
                      rotate_left
                      · (intro w hSw; (try dsimp only at hSw); go_simp; all_goals with_reducible rfl)
                      (try simp only [Act.put, List.setIfInBounds_toArray, List.set_cons_zero, List.set_cons_succ])
                      refine wpAnyH_take (i := 11) (v := ?_) (by rw [List.getElem?_toArray]; rfl) (by kernel_rfl) (by kernel_rfl) (by kernel_rfl) (by intro _ _ _ h; exact h) (Or.inl ⟨by rfl, ?_⟩) (by assumption) ?_
                      rotate_left
                      · (intro w hSw; (try dsimp only at hSw); go_simp; all_goals with_reducible rfl)
                      (try simp only [Act.put, List.setIfInBounds_toArray, List.set_cons_zero, List.set_cons_succ])
                      refine wpAnyH_take (i := 12) (v := ?_) (by rw [List.getElem?_toArray]; rfl) (by kernel_rfl) (by kernel_rfl) (by kernel_rfl) (by intro _ _ _ h; exact h) (Or.inl ⟨by rfl, ?_⟩) (by assumption) ?_
                      rotate_left
                      · (intro w hSw; (try dsimp only at hSw); go_simp; all_goals with_reducible rfl)
                      (try simp only [Act.put, List.setIfInBounds_toArray, List.set_cons_zero, List.set_cons_succ])
                      refine wpAnyH_ready (rs := [14]) (by kernel_rfl) (by simp) ?_
                      refine (AllReadyH.cons (by rw [List.getElem?_toArray]; rfl) (fun K hK => ?_) AllReadyH.nil)
                      go_simp
                      refine hK.out _ _ ?_ (fun hHeld => ?_)
                      · first | exact ⟨n1, n2, n3⟩ | (simp (maxDischargeDepth := 6) [go_sem, *]; done)
                      clear hK K
                      (try simp only [Act.put, List.setIfInBounds_toArray, List.set_cons_zero, List.set_cons_succ])
                      refine wpAnyH_take (i := 15) (v := ?_) (by rw [List.getElem?_toArray]; rfl) (by kernel_rfl) (by kernel_rfl) (by kernel_rfl) (by intro _ _ _ h; exact h) (Or.inl ⟨by rfl, ?_⟩) (by assumption) ?_
                      rotate_left
                      · (intro w hSw; (try dsimp only at hSw); go_simp; all_goals with_reducible rfl)
                      (try simp only [Act.put, List.setIfInBounds_toArray, List.set_cons_zero, List.set_cons_succ])
                      refine wpAnyH_take (i := 16) (v := ?_) (by rw [List.getElem?_toArray]; rfl) (by kernel_rfl) (by kernel_rfl) (by kernel_rfl) (by intro _ _ _ h; exact h) (Or.inl ⟨by rfl, ?_⟩) (by assumption) ?_
                      rotate_left
                      · (intro w hSw; (try dsimp only at hSw); go_simp; all_goals with_reducible rfl)
                      (try simp only [Act.put, List.setIfInBounds_toArray, List.set_cons_zero, List.set_cons_succ])
                      refine wpAnyH_done (by kernel_rfl) ?_ _
                      go_wp2_with fail
                      go_meet
                      case rel => exact ⟨_, a3, c3, a4, c4, rfl, rfl, N.set _ _ _, own_neK OG (put3_butK _ _ _ _ _) HNE, own_neK OC (put3_butK _ _ _ _ _) HNF, HAP, HAQ, NT.below (((BB.setCell hjj _).setCell hjj _).setCell hjj _)⟩
                  · go_simp
                    (have N := Bx3.new v (.int .i64 0) (.int .i64 0) (.slice none 0 0) 26); (have A := Below.nw v (.cells #[.int .i64 0, .int .i64 0, .slice none 0 0] 26)); (have hjj : v.heap.size ≤ v.heap.size := BB.size); (have hne : w.heap.size ≠ v.heap.size := by have := (NT.below BB).lt; omega); (have hne' := Ne.symm hne); (replace BB := BB.trans (A.mono BB.size)); (have hvj : v.heap.size < (v.alloc (.cells #[.int .i64 0, .int .i64 0, .slice none 0 0] 26)).heap.size := N.1); clear n0 n1 n2 n3 n4 n5 n6; clear A; (generalize v.alloc (.cells #[.int .i64 0, .int .i64 0, .slice none 0 0] 26) = v2 at *); obtain ⟨n0, n1, n2, n3, n4, n5, n6⟩ := id (NT.below BB).1; obtain ⟨m0, m1, m2, m3, m4, m5, m6⟩ := id N
                    refine hK.out _ _ ?_ (fun hHeld => ?_)
                    · first | exact ⟨n1, n2, n3⟩ | (simp (maxDischargeDepth := 6) [go_sem, *]; done)
                    clear hK K
                    (try simp only [Act.put, List.setIfInBounds_toArray, List.set_cons_zero, List.set_cons_succ])
                    refine wpAnyH_ready (rs := [6]) (by kernel_rfl) (by simp) ?_
                    refine (AllReadyH.cons (by rw [List.getElem?_toArray]; rfl) (fun K hK => ?_) AllReadyH.nil)
                    go_simp
                    refine (AZ2 _ (NT.below BB).bw).mono ?_; rintro e w' ⟨rfl, rfl⟩
                    (try go_wp2_with fail)
                    refine hK.out _ _ ?_ (fun hHeld => ?_)
                    · first | exact ⟨n1, n2, n3⟩ | (simp (maxDischargeDepth := 6) [go_sem, *]; done)
                    clear hK K
                    (try simp only [Act.put, List.setIfInBounds_toArray, List.set_cons_zero, List.set_cons_succ])
                    refine wpAnyH_take (i := 7) (v := ?_) (by rw [List.getElem?_toArray]; rfl) (by kernel_rfl) (by kernel_rfl) (by kernel_rfl) (by intro _ _ _ h; exact h) (Or.inl ⟨by rfl, ?_⟩) (by assumption) ?_
                    rotate_left
                    · (intro w hSw; (try dsimp only at hSw); go_simp; all_goals with_reducible rfl)
                    (try simp only [Act.put, List.setIfInBounds_toArray, List.set_cons_zero, List.set_cons_succ])
                    refine wpAnyH_ready (rs := [8]) (by kernel_rfl) (by simp) ?_
                    refine (AllReadyH.cons (by rw [List.getElem?_toArray]; rfl) (fun K hK => ?_) AllReadyH.nil)
                    go_simp
                    refine (CI _ _ _ _ (NT.below BB).2.1).mono ?_; rintro e v1 ⟨a3, c3, a4, c4, a5, c5, rfl, OG, OC, hb⟩; clear n0 n1 n2 n3 n4 n5 n6; clear m0 m1 m2 m3 m4 m5 m6; (replace N := N.below hb); (have HNE : ∀ g, (Value.slice a3 TL.length c3).ownBlock = some g → g ≠ v.heap.size := fun g hg => by have := (World.ownsRow.lt OG g hg).1; omega); (have HNF : ∀ g, (Value.slice a4 CL.length c4).ownBlock = some g → g ≠ v.heap.size := fun g hg => by have := (World.ownsRow.lt OC g hg).1; omega); (have HAP := (NT.below BB).ns.ap OG (Nat.le_refl _)); (have HAQ := (NT.below BB).ns.ap OC (Nat.le_refl _)); (have hbs := (NT.below BB).lt); (replace OG := ownK_le (base' := w.heap.size + 1) OG hbs); (replace OC := ownK_le (base' := w.heap.size + 1) OC hbs); (replace BB := BB.trans (hb.mono BB.size)); clear hb; obtain ⟨n0, n1, n2, n3, n4, n5, n6⟩ := id (NT.below BB).1; obtain ⟨m0, m1, m2, m3, m4, m5, m6⟩ := id N
                    (try go_wp2_with fail)
                    refine hK.out _ _ ?_ (fun hHeld => ?_)
                    · first | exact ⟨n1, n2, n3⟩ | (simp (maxDischargeDepth := 6) [go_sem, *]; done)
                    clear hK K
                    (try simp only [Act.put, List.setIfInBounds_toArray, List.set_cons_zero, List.set_cons_succ])
                    refine wpAnyH_take (i := 9) (v := ?_) (by rw [List.getElem?_toArray]; rfl) (by kernel_rfl) (by kernel_rfl) (by kernel_rfl) (by intro _ _ _ h; exact h) (Or.inl ⟨by rfl, ?_⟩) (by assumption) ?_
                    rotate_left
                    · (intro w hSw; (try dsimp only at hSw); go_simp; all_goals with_reducible rfl)
                    (try simp only [Act.put, List.setIfInBounds_toArray, List.set_cons_zero, List.set_cons_succ])
                    refine wpAnyH_take (i := 10) (v := ?_) (by rw [List.getElem?_toArray]; rfl) (by kernel_rfl) (by kernel_rfl) (by kernel_rfl) (by intro _ _ _ h; exact h) (Or.inl ⟨by rfl, ?_⟩) (by assumption) ?_
                    rotate_left
                    · (intro w hSw; (try dsimp only at hSw); go_simp; all_goals with_reducible rfl)
                    (try simp only [Act.put, List.setIfInBounds_toArray, List.set_cons_zero, List.set_cons_succ])
                    refine wpAnyH_take (i := 11) (v := ?_) (by rw [List.getElem?_toArray]; rfl) (by kernel_rfl) (by kernel_rfl) (by kernel_rfl) (by intro _ _ _ h; exact h) (Or.inl ⟨by rfl, ?_⟩) (by assumption) ?_
                    rotate_left
                    · (intro w hSw; (try dsimp only at hSw); go_simp; all_goals with_reducible rfl)
                    (try simp only [Act.put, List.setIfInBounds_toArray, List.set_cons_zero, List.set_cons_succ])
                    refine wpAnyH_take (i := 12) (v := ?_) (by rw [List.getElem?_toArray]; rfl) (by kernel_rfl) (by kernel_rfl) (by kernel_rfl) (by intro _ _ _ h; exact h) (Or.inl ⟨by rfl, ?_⟩) (by assumption) ?_
                    rotate_left
                    · (intro w hSw; (try dsimp only at hSw); go_simp; all_goals with_reducible rfl)
                    (try simp only [Act.put, List.setIfInBounds_toArray, List.set_cons_zero, List.set_cons_succ])
                    refine wpAnyH_ready (rs := [14]) (by kernel_rfl) (by simp) ?_
                    refine (AllReadyH.cons (by rw [List.getElem?_toArray]; rfl) (fun K hK => ?_) AllReadyH.nil)
                    go_simp
                    refine hK.out _ _ ?_ (fun hHeld => ?_)
                    · first | exact ⟨n1, n2, n3⟩ | (simp (maxDischargeDepth := 6) [go_sem, *]; done)
                    clear hK K
                    (try simp only [Act.put, List.setIfInBounds_toArray, List.set_cons_zero, List.set_cons_succ])
                    refine wpAnyH_take (i := 15) (v := ?_) (by rw [List.getElem?_toArray]; rfl) (by kernel_rfl) (by kernel_rfl) (by kernel_rfl) (by intro _ _ _ h; exact h) (Or.inl ⟨by rfl, ?_⟩) (by assumption) ?_
                    rotate_left
                    · (intro w hSw; (try dsimp only at hSw); go_simp; all_goals with_reducible rfl)
                    (try simp only [Act.put, List.setIfInBounds_toArray, List.set_cons_zero, List.set_cons_succ])
                    refine wpAnyH_take (i := 16) (v := ?_) (by rw [List.getElem?_toArray]; rfl) (by kernel_rfl) (by kernel_rfl) (by kernel_rfl) (by intro _ _ _ h; exact h) (Or.inl ⟨by rfl, ?_⟩) (by assumption) ?_
                    rotate_left
                    · (intro w hSw; (try dsimp only at hSw); go_simp; all_goals with_reducible rfl)
                    (try simp only [Act.put, List.setIfInBounds_toArray, List.set_cons_zero, List.set_cons_succ])
                    refine wpAnyH_done (by kernel_rfl) ?_ _
                    go_wp2_with fail
                    go_meet
                    case rel => exact ⟨_, a3, c3, a4, c4, rfl, rfl, N.set _ _ _, own_neK OG (put3_butK _ _ _ _ _) HNE, own_neK OC (put3_butK _ _ _ _ _) HNF, HAP, HAQ, NT.below (((BB.setCell hjj _).setCell hjj _).setCell hjj _)⟩
              case rest =>
                clear n0 n1 n2 n3 n4 n5 n6 NT CI
                obtain ⟨j13, a3, c3, a4, c4, rfl, rfl, J13, OG, OC, HAP, HAQ, NT⟩ := hcut
                generalize wc = u at *
                obtain ⟨n0, n1, n2, n3, n4, n5, n6⟩ := id NT.1
                go_upto_region 24 with fail
                go_cut [16, 17, 18] (fun s16 s17 s18 wx => ∃ (j16 : Nat) (a5 : Option Addr) (c5 : Nat) (a6 : Option Addr) (c6 : Nat), s16 = .pointer (some ⟨j16, 0, none⟩) ∧ s17 = .slice a6 CL.length c6 ∧ Bx3 wx j16 (.int .i64 ep) (.int .i64 U) (.slice a5 TL.length c5) ∧ Bx3 wx j13 (.int .i64 ep) (.int .i64 U) (.slice a3 TL.length c3) ∧ wx.ownsRow (w.heap.size + 1) 34 4 (.slice a3 TL.length c3) TL.length (krow (rowL TL) TL.length) ∧ wx.ownsRow (w.heap.size + 1) 34 4 (.slice a4 CL.length c4) CL.length (krow (rowL CL) CL.length) ∧ Nt w ep us M n ta tc S u4 wx)
                case first =>
                  as_aux_lemma =>
                    refine wp_region_held_drew (S := (fun w' => w'.cell? ⟨w.heap.size, 0, none⟩ = some (.int .i64 ep) ∧ w'.cell? ⟨w.heap.size, 1, none⟩ = some (.int .i64 us) ∧ w'.cell? ⟨w.heap.size, 2, none⟩ = some (.slice ta n tc))) (by kernel_rfl) ?_ (fun hHeld => ?_)
                    · first | exact ⟨n1, n2, n3⟩ | (simp (maxDischargeDepth := 6) [go_sem, *]; done)
                    clear n0 n1 n2 n3 n4 n5 n6
                    replace NT := NT.drew
                    replace J13 := J13.drew
                    replace OG := World.ownsRow.drew OG
                    replace OC := World.ownsRow.drew OC
                    generalize u.drew = v at *
                    have BB := Below.refl v.heap.size v
                    obtain ⟨n0, n1, n2, n3, n4, n5, n6⟩ := id NT.1
                    refine wpAnyH_take (i := 0) (v := ?_) (by rw [List.getElem?_toArray]; rfl) (by kernel_rfl) (by kernel_rfl) (by kernel_rfl) (by intro _ _ _ h; exact h) (Or.inl ⟨by rfl, ?_⟩) (by assumption) ?_
                    rotate_left
                    · (intro w hSw; (try dsimp only at hSw); go_simp; all_goals with_reducible rfl)
                    (try simp only [Act.put, List.setIfInBounds_toArray, List.set_cons_zero, List.set_cons_succ])
                    refine wpAnyH_take (i := 1) (v := ?_) (by rw [List.getElem?_toArray]; rfl) (by kernel_rfl) (by kernel_rfl) (by kernel_rfl) (by intro _ _ _ h; exact h) (Or.inl ⟨by rfl, ?_⟩) (by assumption) ?_
                    rotate_left
                    · (intro w hSw; (try dsimp only at hSw); go_simp; all_goals with_reducible rfl)
                    (try simp only [Act.put, List.setIfInBounds_toArray, List.set_cons_zero, List.set_cons_succ])
                    refine wpAnyH_take (i := 2) (v := ?_) (by rw [List.getElem?_toArray]; rfl) (by kernel_rfl) (by kernel_rfl) (by kernel_rfl) (by intro _ _ _ h; exact h) (Or.inl ⟨by rfl, ?_⟩) (by assumption) ?_
                    rotate_left
                    · (intro w hSw; (try dsimp only at hSw); go_simp; all_goals with_reducible rfl)
                    (try simp only [Act.put, List.setIfInBounds_toArray, List.set_cons_zero, List.set_cons_succ])
                    refine wpAnyH_take (i := 3) (v := ?_) (by rw [List.getElem?_toArray]; rfl) (by kernel_rfl) (by kernel_rfl) (by kernel_rfl) (by intro _ _ _ h; exact h) (Or.inl ⟨by rfl, ?_⟩) (by assumption) ?_
                    rotate_left
                    · (intro w hSw; (try dsimp only at hSw); go_simp; all_goals with_reducible rfl)
                    (try simp only [Act.put, List.setIfInBounds_toArray, List.set_cons_zero, List.set_cons_succ])
                    refine wpAnyH_take (i := 4) (v := ?_) (by rw [List.getElem?_toArray]; rfl) (by kernel_rfl) (by kernel_rfl) (by kernel_rfl) (by intro _ _ _ h; exact h) (Or.inl ⟨by rfl, ?_⟩) (by assumption) ?_
                    rotate_left
                    · (intro w hSw; (try dsimp only at hSw); go_simp; all_goals with_reducible rfl)
                    (try simp only [Act.put, List.setIfInBounds_toArray, List.set_cons_zero, List.set_cons_succ])
                    refine wpAnyH_take (i := 5) (v := ?_) (by rw [List.getElem?_toArray]; rfl) (by kernel_rfl) (by kernel_rfl) (by kernel_rfl) (by intro _ _ _ h; exact h) (Or.inl ⟨by rfl, ?_⟩) (by assumption) ?_
                    rotate_left
                    · (intro w hSw; (try dsimp only at hSw); go_simp; all_goals with_reducible rfl)
                    (try simp only [Act.put, List.setIfInBounds_toArray, List.set_cons_zero, List.set_cons_succ])
                    refine wpAnyH_ready (rs := [6, 13]) (by kernel_rfl) (by simp) ?_
                    refine (AllReadyH.cons (by rw [List.getElem?_toArray]; rfl) (fun K hK => ?_) (AllReadyH.cons (by rw [List.getElem?_toArray]; rfl) (fun K hK => ?_) AllReadyH.nil))
                    · go_simp
                      refine (AZ2 _ (NT.below BB).bw).mono ?_; rintro e w' ⟨rfl, rfl⟩
                      (try go_wp2_with fail)
                      refine hK.out _ _ ?_ (fun hHeld => ?_)
                      · first | exact ⟨n1, n2, n3⟩ | (simp (maxDischargeDepth := 6) [go_sem, *]; done)
                      clear hK K
                      (try simp only [Act.put, List.setIfInBounds_toArray, List.set_cons_zero, List.set_cons_succ])
                      refine wpAnyH_take (i := 7) (v := ?_) (by rw [List.getElem?_toArray]; rfl) (by kernel_rfl) (by kernel_rfl) (by kernel_rfl) (by intro _ _ _ h; exact h) (Or.inl ⟨by rfl, ?_⟩) (by assumption) ?_
                      rotate_left
                      · (intro w hSw; (try dsimp only at hSw); go_simp; all_goals with_reducible rfl)
                      (try simp only [Act.put, List.setIfInBounds_toArray, List.set_cons_zero, List.set_cons_succ])
                      refine wpAnyH_ready (rs := [8, 13]) (by kernel_rfl) (by simp) ?_
                      refine (AllReadyH.cons (by rw [List.getElem?_toArray]; rfl) (fun K hK => ?_) (AllReadyH.cons (by rw [List.getElem?_toArray]; rfl) (fun K hK => ?_) AllReadyH.nil))
                      · go_simp
                        refine (CS _ _ _ _ (NT.below BB).2.1).mono ?_; rintro e v1 ⟨a5, c5, a6, c6, a7, c7, rfl, _, _, hb⟩; clear n0 n1 n2 n3 n4 n5 n6; (replace BB := BB.trans (hb.mono BB.size)); clear hb; obtain ⟨n0, n1, n2, n3, n4, n5, n6⟩ := id (NT.below BB).1
                        (try go_wp2_with fail)
                        refine hK.out _ _ ?_ (fun hHeld => ?_)
                        · first | exact ⟨n1, n2, n3⟩ | (simp (maxDischargeDepth := 6) [go_sem, *]; done)
                        clear hK K
                        (try simp only [Act.put, List.setIfInBounds_toArray, List.set_cons_zero, List.set_cons_succ])
                        refine wpAnyH_take (i := 9) (v := ?_) (by rw [List.getElem?_toArray]; rfl) (by kernel_rfl) (by kernel_rfl) (by kernel_rfl) (by intro _ _ _ h; exact h) (Or.inl ⟨by rfl, ?_⟩) (by assumption) ?_
                        rotate_left
                        · (intro w hSw; (try dsimp only at hSw); go_simp; all_goals with_reducible rfl)
                        (try simp only [Act.put, List.setIfInBounds_toArray, List.set_cons_zero, List.set_cons_succ])
                        refine wpAnyH_take (i := 10) (v := ?_) (by rw [List.getElem?_toArray]; rfl) (by kernel_rfl) (by kernel_rfl) (by kernel_rfl) (by intro _ _ _ h; exact h) (Or.inl ⟨by rfl, ?_⟩) (by assumption) ?_
                        rotate_left
                        · (intro w hSw; (try dsimp only at hSw); go_simp; all_goals with_reducible rfl)
                        (try simp only [Act.put, List.setIfInBounds_toArray, List.set_cons_zero, List.set_cons_succ])
                        refine wpAnyH_take (i := 11) (v := ?_) (by rw [List.getElem?_toArray]; rfl) (by kernel_rfl) (by kernel_rfl) (by kernel_rfl) (by intro _ _ _ h; exact h) (Or.inl ⟨by rfl, ?_⟩) (by assumption) ?_
                        rotate_left
                        · (intro w hSw; (try dsimp only at hSw); go_simp; all_goals with_reducible rfl)
                        (try simp only [Act.put, List.setIfInBounds_toArray, List.set_cons_zero, List.set_cons_succ])
                        refine wpAnyH_take (i := 12) (v := ?_) (by rw [List.getElem?_toArray]; rfl) (by kernel_rfl) (by kernel_rfl) (by kernel_rfl) (by intro _ _ _ h; exact h) (Or.inl ⟨by rfl, ?_⟩) (by assumption) ?_
                        rotate_left
                        · (intro w hSw; (try dsimp only at hSw); go_simp; all_goals with_reducible rfl)
                        (try simp only [Act.put, List.setIfInBounds_toArray, List.set_cons_zero, List.set_cons_succ])
                        refine wpAnyH_ready (rs := [13]) (by kernel_rfl) (by simp) ?_
                        refine (AllReadyH.cons (by rw [List.getElem?_toArray]; rfl) (fun K hK => ?_) AllReadyH.nil)
                        go_simp
                        (have N := Bx3.new v1 (.int .i64 0) (.int .i64 0) (.slice none 0 0) 26); (have A := Below.nw v1 (.cells #[.int .i64 0, .int .i64 0, .slice none 0 0] 26)); (have hjj : v.heap.size ≤ v1.heap.size := BB.size); (have hne : w.heap.size ≠ v1.heap.size := by have := (NT.below BB).lt; omega); (have hne' := Ne.symm hne); (replace BB := BB.trans (A.mono BB.size)); (have hvj : v1.heap.size < (v1.alloc (.cells #[.int .i64 0, .int .i64 0, .slice none 0 0] 26)).heap.size := N.1); clear n0 n1 n2 n3 n4 n5 n6; clear A; (generalize v1.alloc (.cells #[.int .i64 0, .int .i64 0, .slice none 0 0] 26) = v2 at *); obtain ⟨n0, n1, n2, n3, n4, n5, n6⟩ := id (NT.below BB).1; obtain ⟨m0, m1, m2, m3, m4, m5, m6⟩ := id N
                        refine hK.out _ _ ?_ (fun hHeld => ?_)
                        · first | exact ⟨n1, n2, n3⟩ | (simp (maxDischargeDepth := 6) [go_sem, *]; done)
                        clear hK K
                        (try simp only [Act.put, List.setIfInBounds_toArray, List.set_cons_zero, List.set_cons_succ])
                        refine wpAnyH_ready (rs := [14]) (by kernel_rfl) (by simp) ?_
                        refine (AllReadyH.cons (by rw [List.getElem?_toArray]; rfl) (fun K hK => ?_) AllReadyH.nil)
                        go_simp
                        refine hK.out _ _ ?_ (fun hHeld => ?_)
                        · first | exact ⟨n1, n2, n3⟩ | (simp (maxDischargeDepth := 6) [go_sem, *]; done)
                        clear hK K
                        (try simp only [Act.put, List.setIfInBounds_toArray, List.set_cons_zero, List.set_cons_succ])
                        refine wpAnyH_take (i := 15) (v := ?_) (by rw [List.getElem?_toArray]; rfl) (by kernel_rfl) (by kernel_rfl) (by kernel_rfl) (by intro _ _ _ h; exact h) (Or.inl ⟨by rfl, ?_⟩) (by assumption) ?_
                        rotate_left
                        · (intro w hSw; (try dsimp only at hSw); go_simp; all_goals with_reducible rfl)
                        (try simp only [Act.put, List.setIfInBounds_toArray, List.set_cons_zero, List.set_cons_succ])
                        refine wpAnyH_take (i := 16) (v := ?_) (by rw [List.getElem?_toArray]; rfl) (by kernel_rfl) (by kernel_rfl) (by kernel_rfl) (by intro _ _ _ h; exact h) (Or.inl ⟨by rfl, ?_⟩) (by assumption) ?_
                        rotate_left
                        · (intro w hSw; (try dsimp only at hSw); go_simp; all_goals with_reducible rfl)
                        (try simp only [Act.put, List.setIfInBounds_toArray, List.set_cons_zero, List.set_cons_succ])
                        refine wpAnyH_done (by kernel_rfl) ?_ _
                        go_wp2_with fail
                        go_meet
                        case rel => exact ⟨_, a5, c5, a6, c6, rfl, rfl, N.set _ _ _, J13.below (((BB.setCell hjj _).setCell hjj _).setCell hjj _), own_belK' OG (((BB.setCell hjj _).setCell hjj _).setCell hjj _), own_belK' OC (((BB.setCell hjj _).setCell hjj _).setCell hjj _), NT.below (((BB.setCell hjj _).setCell hjj _).setCell hjj _)⟩
                      · go_simp
                        (have N := Bx3.new v (.int .i64 0) (.int .i64 0) (.slice none 0 0) 26); (have A := Below.nw v (.cells #[.int .i64 0, .int .i64 0, .slice none 0 0] 26)); (have hjj : v.heap.size ≤ v.heap.size := BB.size); (have hne : w.heap.size ≠ v.heap.size := by have := (NT.below BB).lt; omega); (have hne' := Ne.symm hne); (replace BB := BB.trans (A.mono BB.size)); (have hvj : v.heap.size < (v.alloc (.cells #[.int .i64 0, .int .i64 0, .slice none 0 0] 26)).heap.size := N.1); clear n0 n1 n2 n3 n4 n5 n6; clear A; (generalize v.alloc (.cells #[.int .i64 0, .int .i64 0, .slice none 0 0] 26) = v2 at *); obtain ⟨n0, n1, n2, n3, n4, n5, n6⟩ := id (NT.below BB).1; obtain ⟨m0, m1, m2, m3, m4, m5, m6⟩ := id N
                        refine hK.out _ _ ?_ (fun hHeld => ?_)
                        · first | exact ⟨n1, n2, n3⟩ | (simp (maxDischargeDepth := 6) [go_sem, *]; done)
                        clear hK K
                        (try simp only [Act.put, List.setIfInBounds_toArray, List.set_cons_zero, List.set_cons_succ])
                        refine wpAnyH_ready (rs := [8]) (by kernel_rfl) (by simp) ?_
                        refine (AllReadyH.cons (by rw [List.getElem?_toArray]; rfl) (fun K hK => ?_) AllReadyH.nil)
                        go_simp
                        refine (CS _ _ _ _ (NT.below BB).2.1).mono ?_; rintro e v1 ⟨a5, c5, a6, c6, a7, c7, rfl, _, _, hb⟩; clear n0 n1 n2 n3 n4 n5 n6; clear m0 m1 m2 m3 m4 m5 m6; (replace N := N.below hb); (replace BB := BB.trans (hb.mono BB.size)); clear hb; obtain ⟨n0, n1, n2, n3, n4, n5, n6⟩ := id (NT.below BB).1; obtain ⟨m0, m1, m2, m3, m4, m5, m6⟩ := id N
                        (try go_wp2_with fail)
                        refine hK.out _ _ ?_ (fun hHeld => ?_)
                        · first | exact ⟨n1, n2, n3⟩ | (simp (maxDischargeDepth := 6) [go_sem, *]; done)
                        clear hK K
                        (try simp only [Act.put, List.setIfInBounds_toArray, List.set_cons_zero, List.set_cons_succ])
                        refine wpAnyH_take (i := 9) (v := ?_) (by rw [List.getElem?_toArray]; rfl) (by kernel_rfl) (by kernel_rfl) (by kernel_rfl) (by intro _ _ _ h; exact h) (Or.inl ⟨by rfl, ?_⟩) (by assumption) ?_
                        rotate_left
                        · (intro w hSw; (try dsimp only at hSw); go_simp; all_goals with_reducible rfl)
                        (try simp only [Act.put, List.setIfInBounds_toArray, List.set_cons_zero, List.set_cons_succ])
                        refine wpAnyH_take (i := 10) (v := ?_) (by rw [List.getElem?_toArray]; rfl) (by kernel_rfl) (by kernel_rfl) (by kernel_rfl) (by intro _ _ _ h; exact h) (Or.inl ⟨by rfl, ?_⟩) (by assumption) ?_
                        rotate_left
                        · (intro w hSw; (try dsimp only at hSw); go_simp; all_goals with_reducible rfl)
                        (try simp only [Act.put, List.setIfInBounds_toArray, List.set_cons_zero, List.set_cons_succ])
                        refine wpAnyH_take (i := 11) (v := ?_) (by rw [List.getElem?_toArray]; rfl) (by kernel_rfl) (by kernel_rfl) (by kernel_rfl) (by intro _ _ _ h; exact h) (Or.inl ⟨by rfl, ?_⟩) (by assumption) ?_
                        rotate_left
                        · (intro w hSw; (try dsimp only at hSw); go_simp; all_goals with_reducible rfl)
                        (try simp only [Act.put, List.setIfInBounds_toArray, List.set_cons_zero, List.set_cons_succ])
                        refine wpAnyH_take (i := 12) (v := ?_) (by rw [List.getElem?_toArray]; rfl) (by kernel_rfl) (by kernel_rfl) (by kernel_rfl) (by intro _ _ _ h; exact h) (Or.inl ⟨by rfl, ?_⟩) (by assumption) ?_
                        rotate_left
                        · (intro w hSw; (try dsimp only at hSw); go_simp; all_goals with_reducible rfl)
                        (try simp only [Act.put, List.setIfInBounds_toArray, List.set_cons_zero, List.set_cons_succ])
                        refine wpAnyH_ready (rs := [14]) (by kernel_rfl) (by simp) ?_
                        refine (AllReadyH.cons (by rw [List.getElem?_toArray]; rfl) (fun K hK => ?_) AllReadyH.nil)
                        go_simp
                        refine hK.out _ _ ?_ (fun hHeld => ?_)
                        · first | exact ⟨n1, n2, n3⟩ | (simp (maxDischargeDepth := 6) [go_sem, *]; done)
                        clear hK K
                        (try simp only [Act.put, List.setIfInBounds_toArray, List.set_cons_zero, List.set_cons_succ])
                        refine wpAnyH_take (i := 15) (v := ?_) (by rw [List.getElem?_toArray]; rfl) (by kernel_rfl) (by kernel_rfl) (by kernel_rfl) (by intro _ _ _ h; exact h) (Or.inl ⟨by rfl, ?_⟩) (by assumption) ?_
                        rotate_left
                        · (intro w hSw; (try dsimp only at hSw); go_simp; all_goals with_reducible rfl)
                        (try simp only [Act.put, List.setIfInBounds_toArray, List.set_cons_zero, List.set_cons_succ])
                        refine wpAnyH_take (i := 16) (v := ?_) (by rw [List.getElem?_toArray]; rfl) (by kernel_rfl) (by kernel_rfl) (by kernel_rfl) (by intro _ _ _ h; exact h) (Or.inl ⟨by rfl, ?_⟩) (by assumption) ?_
                        rotate_left
                        · (intro w hSw; (try dsimp only at hSw); go_simp; all_goals with_reducible rfl)
                        (try simp only [Act.put, List.setIfInBounds_toArray, List.set_cons_zero, List.set_cons_succ])
                        refine wpAnyH_done (by kernel_rfl) ?_ _
                        go_wp2_with fail
                        go_meet
                        case rel => exact ⟨_, a5, c5, a6, c6, rfl, rfl, N.set _ _ _, J13.below (((BB.setCell hjj _).setCell hjj _).setCell hjj _), own_belK' OG (((BB.setCell hjj _).setCell hjj _).setCell hjj _), own_belK' OC (((BB.setCell hjj _).setCell hjj _).setCell hjj _), NT.below (((BB.setCell hjj _).setCell hjj _).setCell hjj _)⟩
                    · go_simp
                      (have N := Bx3.new v (.int .i64 0) (.int .i64 0) (.slice none 0 0) 26); (have A := Below.nw v (.cells #[.int .i64 0, .int .i64 0, .slice none 0 0] 26)); (have hjj : v.heap.size ≤ v.heap.size := BB.size); (have hne : w.heap.size ≠ v.heap.size := by have := (NT.below BB).lt; omega); (have hne' := Ne.symm hne); (replace BB := BB.trans (A.mono BB.size)); (have hvj : v.heap.size < (v.alloc (.cells #[.int .i64 0, .int .i64 0, .slice none 0 0] 26)).heap.size := N.1); clear n0 n1 n2 n3 n4 n5 n6; clear A; (generalize v.alloc (.cells #[.int .i64 0, .int .i64 0, .slice none 0 0] 26) = v2 at *); obtain ⟨n0, n1, n2, n3, n4, n5, n6⟩ := id (NT.below BB).1; obtain ⟨m0, m1, m2, m3, m4, m5, m6⟩ := id N
                      refine hK.out _ _ ?_ (fun hHeld => ?_)
                      · first | exact ⟨n1, n2, n3⟩ | (simp (maxDischargeDepth := 6) [go_sem, *]; done)
                      clear hK K
                      (try simp only [Act.put, List.setIfInBounds_toArray, List.set_cons_zero, List.set_cons_succ])
                      refine wpAnyH_ready (rs := [6]) (by kernel_rfl) (by simp) ?_
                      refine (AllReadyH.cons (by rw [List.getElem?_toArray]; rfl) (fun K hK => ?_) AllReadyH.nil)
                      go_simp
                      refine (AZ2 _ (NT.below BB).bw).mono ?_; rintro e w' ⟨rfl, rfl⟩
                      (try go_wp2_with fail)
                      refine hK.out _ _ ?_ (fun hHeld => ?_)
                      · first | exact ⟨n1, n2, n3⟩ | (simp (maxDischargeDepth := 6) [go_sem, *]; done)
                      clear hK K
                      (try simp only [Act.put, List.setIfInBounds_toArray, List.set_cons_zero, List.set_cons_succ])
                      refine wpAnyH_take (i := 7) (v := ?_) (by rw [List.getElem?_toArray]; rfl) (by kernel_rfl) (by kernel_rfl) (by kernel_rfl) (by intro _ _ _ h; exact h) (Or.inl ⟨by rfl, ?_⟩) (by assumption) ?_
                      rotate_left
                      · (intro w hSw; (try dsimp only at hSw); go_simp; all_goals with_reducible rfl)
                      (try simp only [Act.put, List.setIfInBounds_toArray, List.set_cons_zero, List.set_cons_succ])
                      refine wpAnyH_ready (rs := [8]) (by kernel_rfl) (by simp) ?_
                      refine (AllReadyH.cons (by rw [List.getElem?_toArray]; rfl) (fun K hK => ?_) AllReadyH.nil)
                      go_simp
                      refine (CS _ _ _ _ (NT.below BB).2.1).mono ?_; rintro e v1 ⟨a5, c5, a6, c6, a7, c7, rfl, _, _, hb⟩; clear n0 n1 n2 n3 n4 n5 n6; clear m0 m1 m2 m3 m4 m5 m6; (replace N := N.below hb); (replace BB := BB.trans (hb.mono BB.size)); clear hb; obtain ⟨n0, n1, n2, n3, n4, n5, n6⟩ := id (NT.below BB).1; obtain ⟨m0, m1, m2, m3, m4, m5, m6⟩ := id N
                      (try go_wp2_with fail)
                      refine hK.out _ _ ?_ (fun hHeld => ?_)
                      · first | exact ⟨n1, n2, n3⟩ | (simp (maxDischargeDepth := 6) [go_sem, *]; done)
                      clear hK K
                      (try simp only [Act.put, List.setIfInBounds_toArray, List.set_cons_zero, List.set_cons_succ])
                      refine wpAnyH_take (i := 9) (v := ?_) (by rw [List.getElem?_toArray]; rfl) (by kernel_rfl) (by kernel_rfl) (by kernel_rfl) (by intro _ _ _ h; exact h) (Or.inl ⟨by rfl, ?_⟩) (by assumption) ?_
                      rotate_left
                      · (intro w hSw; (try dsimp only at hSw); go_simp; all_goals with_reducible rfl)
                      (try simp only [Act.put, List.setIfInBounds_toArray, List.set_cons_zero, List.set_cons_succ])
                      refine wpAnyH_take (i := 10) (v := ?_) (by rw [List.getElem?_toArray]; rfl) (by kernel_rfl) (by kernel_rfl) (by kernel_rfl) (by intro _ _ _ h; exact h) (Or.inl ⟨by rfl, ?_⟩) (by assumption) ?_
                      rotate_left
                      · (intro w hSw; (try dsimp only at hSw); go_simp; all_goals with_reducible rfl)
                      (try simp only [Act.put, List.setIfInBounds_toArray, List.set_cons_zero, List.set_cons_succ])
                      refine wpAnyH_take (i := 11) (v := ?_) (by rw [List.getElem?_toArray]; rfl) (by kernel_rfl) (by kernel_rfl) (by kernel_rfl) (by intro _ _ _ h; exact h) (Or.inl ⟨by rfl, ?_⟩) (by assumption) ?_
                      rotate_left
                      · (intro w hSw; (try dsimp only at hSw); go_simp; all_goals with_reducible rfl)
                      (try simp only [Act.put, List.setIfInBounds_toArray, List.set_cons_zero, List.set_cons_succ])
                      refine wpAnyH_take (i := 12) (v := ?_) (by rw [List.getElem?_toArray]; rfl) (by kernel_rfl) (by kernel_rfl) (by kernel_rfl) (by intro _ _ _ h; exact h) (Or.inl ⟨by rfl, ?_⟩) (by assumption) ?_
                      rotate_left
                      · (intro w hSw; (try dsimp only at hSw); go_simp; all_goals with_reducible rfl)
                      (try simp only [Act.put, List.setIfInBounds_toArray, List.set_cons_zero, List.set_cons_succ])
                      refine wpAnyH_ready (rs := [14]) (by kernel_rfl) (by simp) ?_
                      refine (AllReadyH.cons (by rw [List.getElem?_toArray]; rfl) (fun K hK => ?_) AllReadyH.nil)
                      go_simp
                      refine hK.out _ _ ?_ (fun hHeld => ?_)
                      · first | exact ⟨n1, n2, n3⟩ | (simp (maxDischargeDepth := 6) [go_sem, *]; done)
                      clear hK K
                      (try simp only [Act.put, List.setIfInBounds_toArray, List.set_cons_zero, List.set_cons_succ])
                      refine wpAnyH_take (i := 15) (v := ?_) (by rw [List.getElem?_toArray]; rfl) (by kernel_rfl) (by kernel_rfl) (by kernel_rfl) (by intro _ _ _ h; exact h) (Or.inl ⟨by rfl, ?_⟩) (by assumption) ?_
                      rotate_left
                      · (intro w hSw; (try dsimp only at hSw); go_simp; all_goals with_reducible rfl)
                      (try simp only [Act.put, List.setIfInBounds_toArray, List.set_cons_zero, List.set_cons_succ])
                      refine wpAnyH_take (i := 16) (v := ?_) (by rw [List.getElem?_toArray]; rfl) (by kernel_rfl) (by kernel_rfl) (by kernel_rfl) (by intro _ _ _ h; exact h) (Or.inl ⟨by rfl, ?_⟩) (by assumption) ?_
                      rotate_left
                      · (intro w hSw; (try dsimp only at hSw); go_simp; all_goals with_reducible rfl)
                      (try simp only [Act.put, List.setIfInBounds_toArray, List.set_cons_zero, List.set_cons_succ])
                      refine wpAnyH_done (by kernel_rfl) ?_ _
                      go_wp2_with fail
                      go_meet
                      case rel => exact ⟨_, a5, c5, a6, c6, rfl, rfl, N.set _ _ _, J13.below (((BB.setCell hjj _).setCell hjj _).setCell hjj _), own_belK' OG (((BB.setCell hjj _).setCell hjj _).setCell hjj _), own_belK' OC (((BB.setCell hjj _).setCell hjj _).setCell hjj _), NT.below (((BB.setCell hjj _).setCell hjj _).setCell hjj _)⟩
                case rest =>
                  clear n0 n1 n2 n3 n4 n5 n6 NT J13 OG OC CS
                  obtain ⟨j16, a5, c5, a6, c6, rfl, rfl, J16, J13, OG, OC, NT⟩ := hcut
                  generalize wc = u at *
                  obtain ⟨n0, n1, n2, n3, n4, n5, n6⟩ := id NT.1
                  obtain ⟨m0, m1, m2, m3, m4, m5, m6⟩ := id J13
                  obtain ⟨p0, p1, p2, p3, p4, p5, p6⟩ := id J16
                  have NS3 : Hid (Ns w ep U (rowL TL) TL.length S u4 _) := NT.ns.set (Xe := ep) (Xu := U) OG (Nat.le_refl _) HAP
                  have hb3 := put3_butK u w.heap.size (.int .i64 ep) (.int .i64 U) (.slice a3 TL.length c3)
                  replace OC := own_butK OC hb3 (by omega)
                  go_upto_region 28 with fail
                  clear n0 n1 n2 n3 n4 n5 n6 m0 m1 m2 m3 m4 m5 m6 p0 p1 p2 p3 p4 p5 p6 NT J13 J16 OG HAP hb3
                  generalize (((u.setCell ⟨w.heap.size, 0, none⟩ (.int .i64 ep)).setCell ⟨w.heap.size, 1, none⟩ (.int .i64 U)).setCell ⟨w.heap.size, 2, none⟩ (.slice a3 TL.length c3)) = u2 at *
                  have NS4 := NS3.out
                  clear NS3
                  go_wp2_with fail
                  go_loopw [4, 19] (fun s i wx => ∃ q : Nat, q ≤ CL.length ∧ i = .int .i64 q ∧ Ns w ep U (rowL TL) TL.length (S ++ (CL.take q).map fun b => b.1) s wx ∧ wx.ownsRow (w.heap.size + 1) 34 4 (.slice a4 CL.length c4) CL.length (krow (rowL CL) CL.length) ∧ Ap (.slice a4 CL.length c4) s) (fun _ i _ => CL.length - (intOf i).toNat)
                  case atStart => exact ⟨0, Nat.zero_le _, rfl, by rw [List.take_zero, List.map_nil, List.append_nil]; exact NS4, OC, HAQ⟩
                  case round =>
                    clear NS4 OC HAQ
                    obtain ⟨q, hq, rfl, NS4, OC, HAQ⟩ := hrel
                    by_cases hql : q < CL.length
                    · have hli2 : (q : Int) < (CL.length : Int) := by omega
                      obtain ⟨b, off, rfl, CZ⟩ : ∃ b off, a4 = some ⟨b, off, none⟩ ∧ Cs wr b off (CL.length * 4) (MFAsk (rowL CL)) := by
                        rcases own_srcK OC with h1 | h1
                        · omega
                        · exact h1
                      have HT1 : Hid (S ++ (CL.take (q + 1)).map (fun b => b.1) = (S ++ (CL.take q).map fun b => b.1) ++ [(rowL CL q).1]) := take_one S CL hql
                      obtain ⟨y0, y1, y2, y3, hM⟩ := tupAsk (rowL CL) q
                      obtain ⟨e0, e1, e2, e3⟩ := CZ.elAsk hql hM
                      rw [hM] at HT1
                      have hcb := CZ.1
                      have hSq : (S ++ (CL.take q).map fun b => b.1).length ≤ 100000 := by rw [List.length_append, List.length_map, List.length_take]; omega
                      clear hM e1 e2 e3 CZ
                      generalize hSg : (S ++ (CL.take q).map fun b => b.1) = Sq at *
                      clear hSg
                      have OV := NS4.seen
                      have hbs2 : w.heap.size + 1 ≤ wr.heap.size := by obtain ⟨_, _, q, _⟩ := NS4; exact q.1
                      go_wp2_with (at_builtin; refine add_int rfl _ _ rfl (w.heap.size + 1) Sq _ rfl OV rfl hSq hbs2 ?_; intro v' w9 O9 hg9 hn9)
                      have NS5 := NS4.add O9 hg9 hn9
                      obtain ⟨OC5, HA5⟩ := kept_seen OC HAQ hg9 hn9
                      clear OV O9 hg9 hn9 NS4 OC HAQ hbs2 hcb e0
                      have HR : Hid (Ns w ep U (rowL TL) TL.length (S ++ (CL.take (q + 1)).map fun b => b.1) v' w9) := by rw [Hid, HT1.out]; exact NS5
                      clear NS5 HT1
                      go_wp2_with fail
                      go_roundw
                      case rel => exact ⟨q + 1, by omega, by go_num, HR.out, OC5, HA5⟩
                      case measure => simp [intOf]; omega
                    · have hqn : q = CL.length := by omega
                      subst hqn
                      have HSN : Hid (SeenOk ep U (S ++ (CL.take CL.length).map fun b => b.1)) := HSeen.out.came (by omega) hU1 HCb.out.1 HCb.out.2 _
                      have hSl3 : (S ++ (CL.take CL.length).map fun b => b.1).length ≤ 17 * (k + 1) := by rw [List.length_append, List.length_map, List.length_take]; omega
                      generalize (S ++ (CL.take CL.length).map fun b => b.1) = S9 at *
                      have NS3 := NS4
                      clear NS4 OC HAQ
                      obtain ⟨ta3, tc3, NT0⟩ := NS3
                      have NT3 : Nt w ep U (rowL TL) TL.length ta3 tc3 S9 _ _ := NT0
                      clear NT0
                      have CTK := fun (w' : World) (h : w'.ownsRow (w.heap.size + 1) 34 4 (.slice ta3 TL.length tc3) TL.length (krow (rowL TL) TL.length)) => implTableOk_any ep U ta3 TL.length tc3 (rowL TL) w' (by have := (tab_nums HT3.out).2.2.1; unfold maxLen; omega) (own_srcK h) (tab_nums HT3.out).2.2.2
                      simp only [HT3.out] at CTK
                      obtain ⟨n0, n1, n2, n3, n4, n5, n6⟩ := id NT3.1
                      go_wp2_with fail
                      refine (CTK _ NT3.2.1).mono ?_
                      rintro e u9 ⟨rfl, hb⟩
                      clear n0 n1 n2 n3 n4 n5 n6
                      replace NT3 := NT3.below hb
                      clear hb CTK
                      go_wp2_with fail
                      go_roundw
                      case rel => exact ⟨k + 1, ep, U, t9, (rowL TL), TL.length, S9, by omega, by go_num, rfl, ⟨by omega, by omega⟩, by omega, HT3.out, HSN.out, hSl3, NT3.ns⟩
                      case measure => simp [intOf]; omega
          have c3' : (r == 3) = false := beq_eq_false_iff_ne.2 c3
          by_cases c4 : r = 4
          · subst c4
            as_aux_lemma =>
              by_cases hS0 : S.length = 0
              · have hS0' : (S.length : Int) = 0 := by omega
                obtain ⟨av, cv, rfl⟩ := own_sliceN NT.2.2.1
                have NS3 := NT.ns
                have HT3 := HTab
                clear NT
                rw [hS0] at *
                go_upto_region 35 with fail
                obtain ⟨ta3, tc3, NT0⟩ := NS3
                have NT3 : Nt w ep us M n ta3 tc3 S _ _ := NT0
                clear NT0
                have CTK := fun (w' : World) (h : w'.ownsRow (w.heap.size + 1) 34 4 (.slice ta3 n tc3) n (krow M n)) => implTableOk_any ep us ta3 n tc3 M w' (by have := (tab_nums HT3.out).2.2.1; unfold maxLen; omega) (own_srcK h) (tab_nums HT3.out).2.2.2
                simp only [HT3.out] at CTK
                obtain ⟨n0, n1, n2, n3, n4, n5, n6⟩ := id NT3.1
                go_wp2_with fail
                refine (CTK _ NT3.2.1).mono ?_
                rintro e u9 ⟨rfl, hb⟩
                clear n0 n1 n2 n3 n4 n5 n6
                replace NT3 := NT3.below hb
                clear hb CTK
                go_wp2_with fail
                go_roundw
                case rel => exact ⟨k + 1, ep, us, t9, M, n, S, by omega, by go_num, rfl, ⟨by omega, by omega⟩, by omega, HT3.out, HSeen.out, by omega, NT3.ns⟩
                case measure => simp [intOf]; omega
              have hS1 : (0 : Int) < (S.length : Int) := by omega
              obtain ⟨av, cv, rfl⟩ := own_sliceN NT.2.2.1
              obtain ⟨bs, rfl, hbl, hce⟩ := own_cellI NT.2.2.1 (by omega)
              have HCE : Hid (∀ k, k < S.length → wr.cell? ⟨bs, k, none⟩ = some (.int .i64 (gI S k))) := hce
              clear hce
              obtain ⟨rr, hrr, hrr0, hrr1⟩ := tm_in (m := (S.length : Int)) hz2.1 hS1
              obtain ⟨ri, rfl⟩ := Int.eq_ofNat_of_zero_le hrr0
              have hri : ri < S.length := by omega
              have hcx := HCE.out ri hri
              have hsx := HSeen.out.2 _ (gI_in hri)
              have hSz : ¬ (S.length : Int) = 0 := by omega
              obtain ⟨mm, G, y0, y1, y2, y3, C1, CU, hT3⟩ := use_one (gI S ri) f8 HTab.out (wf_small hsx.1 (by omega))
              have HT3 : Hid (tabB ep us G mm = true) := hT3
              clear hT3 HCE hsx
              have hbne : bs ≠ w.heap.size := by have := (World.ownsRow.lt NT.2.2.1 bs rfl).1; omega
              have hbne' := Ne.symm hbne
              generalize gI S ri = sx at *
              obtain ⟨n0, n1, n2, n3, n4, n5, n6⟩ := id NT.1
              go_upto_region 34 with fail
              skip
              refine wp_region_held_drew (S := (fun w' => w'.cell? ⟨bs, ri, none⟩ = some (.int .i64 sx))) (by kernel_rfl) ?_ (fun hHeld => ?_)
              · first | exact hcx | (simp (maxDischargeDepth := 6) [go_sem, *]; done)
              clear n0 n1 n2 n3 n4 n5 n6
              replace NT := NT.drew
              replace hcx : wr.drew.cell? _ = _ := hcx
              replace hbl : bs < wr.drew.heap.size := hbl
              generalize wr.drew = v at *
              obtain ⟨n0, n1, n2, n3, n4, n5, n6⟩ := id NT.1
              refine wpAnyH_take (i := 1) (v := ?_) (by rw [List.getElem?_toArray]; rfl) (by kernel_rfl) (by kernel_rfl) (by kernel_rfl) (by intro _ _ _ h; exact h) (Or.inl ⟨by rfl, ?_⟩) (by assumption) ?_
              rotate_left
              · (intro w hSw; (try dsimp only at hSw); go_simp; all_goals with_reducible rfl)
              (try simp only [Act.put, List.setIfInBounds_toArray, List.set_cons_zero, List.set_cons_succ])
              refine wpAnyH_take (i := 2) (v := ?_) (by rw [List.getElem?_toArray]; rfl) (by kernel_rfl) (by kernel_rfl) (by kernel_rfl) (by intro _ _ _ h; exact h) (Or.inl ⟨by rfl, ?_⟩) (by assumption) ?_
              rotate_left
              · (intro w hSw; (try dsimp only at hSw); go_simp; all_goals with_reducible rfl)
              (try simp only [Act.put, List.setIfInBounds_toArray, List.set_cons_zero, List.set_cons_succ])
              refine wpAnyH_take (i := 3) (v := ?_) (by rw [List.getElem?_toArray]; rfl) (by kernel_rfl) (by kernel_rfl) (by kernel_rfl) (by intro _ _ _ h; exact h) (Or.inl ⟨by rfl, ?_⟩) (by assumption) ?_
              rotate_left
              · (intro w hSw; (try dsimp only at hSw); go_simp; all_goals with_reducible rfl)
              (try simp only [Act.put, List.setIfInBounds_toArray, List.set_cons_zero, List.set_cons_succ])
              refine wpAnyH_take (i := 4) (v := ?_) (by rw [List.getElem?_toArray]; rfl) (by kernel_rfl) (by kernel_rfl) (by kernel_rfl) (by intro _ _ _ h; exact h) (Or.inl ⟨by rfl, ?_⟩) (by assumption) ?_
              rotate_left
              · (intro w hSw; (try dsimp only at hSw); go_simp; all_goals with_reducible rfl)
              (try simp only [Act.put, List.setIfInBounds_toArray, List.set_cons_zero, List.set_cons_succ])
              refine wpAnyH_take (i := 5) (v := ?_) (by rw [List.getElem?_toArray]; rfl) (by kernel_rfl) (by kernel_rfl) (by kernel_rfl) (by intro _ _ _ h; exact h) (Or.inl ⟨by rfl, ?_⟩) (by assumption) ?_
              rotate_left
              · (intro w hSw; (try dsimp only at hSw); go_simp; all_goals with_reducible rfl)
              (try simp only [Act.put, List.setIfInBounds_toArray, List.set_cons_zero, List.set_cons_succ])
              refine wpAnyH_take (i := 7) (v := ?_) (by rw [List.getElem?_toArray]; rfl) (by kernel_rfl) (by kernel_rfl) (by kernel_rfl) (by intro _ _ _ h; exact h) (Or.inl ⟨by rfl, ?_⟩) (by assumption) ?_
              rotate_left
              · (intro w hSw; (try dsimp only at hSw); go_simp; all_goals with_reducible rfl)
              (try simp only [Act.put, List.setIfInBounds_toArray, List.set_cons_zero, List.set_cons_succ])
              refine wpAnyH_take (i := 8) (v := ?_) (by rw [List.getElem?_toArray]; rfl) (by kernel_rfl) (by kernel_rfl) (by kernel_rfl) (by intro _ _ _ h; exact h) (Or.inl ⟨by rfl, ?_⟩) (by assumption) ?_
              rotate_left
              · (intro w hSw; (try dsimp only at hSw); go_simp; all_goals with_reducible rfl)
              (try simp only [Act.put, List.setIfInBounds_toArray, List.set_cons_zero, List.set_cons_succ])
              refine wpAnyH_take (i := 12) (v := ?_) (by rw [List.getElem?_toArray]; rfl) (by kernel_rfl) (by kernel_rfl) (by kernel_rfl) (by intro _ _ _ h; exact h) (Or.inl ⟨by rfl, ?_⟩) (by assumption) ?_
              rotate_left
              · (intro w hSw; (try dsimp only at hSw); go_simp; all_goals with_reducible rfl)
              (try simp only [Act.put, List.setIfInBounds_toArray, List.set_cons_zero, List.set_cons_succ])
              refine wpAnyH_take (i := 13) (v := ?_) (by rw [List.getElem?_toArray]; rfl) (by kernel_rfl) (by kernel_rfl) (by kernel_rfl) (by intro _ _ _ h; exact h) (Or.inl ⟨by rfl, ?_⟩) (by assumption) ?_
              rotate_left
              · (intro w hSw; (try dsimp only at hSw); go_simp; all_goals with_reducible rfl)
              (try simp only [Act.put, List.setIfInBounds_toArray, List.set_cons_zero, List.set_cons_succ])
              refine wpAnyH_take (i := 14) (v := ?_) (by rw [List.getElem?_toArray]; rfl) (by kernel_rfl) (by kernel_rfl) (by kernel_rfl) (by intro _ _ _ h; exact h) (Or.inl ⟨by rfl, ?_⟩) (by assumption) ?_
              rotate_left
              · (intro w hSw; (try dsimp only at hSw); go_simp; all_goals with_reducible rfl)
              (try simp only [Act.put, List.setIfInBounds_toArray, List.set_cons_zero, List.set_cons_succ])
              refine wpAnyH_ready (rs := [0, 6]) (by kernel_rfl) (by simp) ?_
              refine (AllReadyH.cons (by rw [List.getElem?_toArray]; rfl) (fun K hK => ?_) (AllReadyH.cons (by rw [List.getElem?_toArray]; rfl) (fun K hK => ?_) AllReadyH.nil))
              · go_simp
                refine hK.out _ _ ?_ (fun hHeld => ?_)
                · first | exact hcx | (simp (maxDischargeDepth := 6) [go_sem, *]; done)
                clear hK K
                (try simp only [Act.put, List.setIfInBounds_toArray, List.set_cons_zero, List.set_cons_succ])
                refine wpAnyH_ready (rs := [6]) (by kernel_rfl) (by simp) ?_
                refine (AllReadyH.cons (by rw [List.getElem?_toArray]; rfl) (fun K hK => ?_) AllReadyH.nil)
                go_simp
                refine (AZ2 _ NT.bw).mono ?_; rintro e w' ⟨rfl, rfl⟩
                (try go_wp2_with fail)
                refine hK.out _ _ ?_ (fun hHeld => ?_)
                · first | exact hcx | (simp (maxDischargeDepth := 6) [go_sem, *]; done)
                clear hK K
                (try simp only [Act.put, List.setIfInBounds_toArray, List.set_cons_zero, List.set_cons_succ])
                refine wpAnyH_take (i := 9) (v := ?_) (by rw [List.getElem?_toArray]; rfl) (by kernel_rfl) (by kernel_rfl) (by kernel_rfl) (by intro _ _ _ h; exact h) (Or.inl ⟨by rfl, ?_⟩) (by assumption) ?_
                rotate_left
                · (intro w hSw; (try dsimp only at hSw); go_simp; all_goals with_reducible rfl)
                (try simp only [Act.put, List.setIfInBounds_toArray, List.set_cons_zero, List.set_cons_succ])
                refine wpAnyH_take (i := 10) (v := ?_) (by rw [List.getElem?_toArray]; rfl) (by kernel_rfl) (by kernel_rfl) (by kernel_rfl) (by intro _ _ _ h; exact h) (Or.inl ⟨by rfl, ?_⟩) (by assumption) ?_
                rotate_left
                · (intro w hSw; (try dsimp only at hSw); go_simp; all_goals with_reducible rfl)
                (try simp only [Act.put, List.setIfInBounds_toArray, List.set_cons_zero, List.set_cons_succ])
                refine wpAnyH_take (i := 11) (v := ?_) (by rw [List.getElem?_toArray]; rfl) (by kernel_rfl) (by kernel_rfl) (by kernel_rfl) (by intro _ _ _ h; exact h) (Or.inl ⟨by rfl, ?_⟩) (by assumption) ?_
                rotate_left
                · (intro w hSw; (try dsimp only at hSw); go_simp; all_goals with_reducible rfl)
                (try simp only [Act.put, List.setIfInBounds_toArray, List.set_cons_zero, List.set_cons_succ])
                refine wpAnyH_ready (rs := [15]) (by kernel_rfl) (by simp) ?_
                refine (AllReadyH.cons (by rw [List.getElem?_toArray]; rfl) (fun K hK => ?_) AllReadyH.nil)
                go_simp
                refine (AZ0 _ NT.bw).mono ?_; rintro e w' ⟨rfl, rfl⟩
                (try go_wp2_with fail)
                refine hK.out _ _ ?_ (fun hHeld => ?_)
                · first | exact hcx | (simp (maxDischargeDepth := 6) [go_sem, *]; done)
                clear hK K
                (try simp only [Act.put, List.setIfInBounds_toArray, List.set_cons_zero, List.set_cons_succ])
                refine wpAnyH_take (i := 16) (v := ?_) (by rw [List.getElem?_toArray]; rfl) (by kernel_rfl) (by kernel_rfl) (by kernel_rfl) (by intro _ _ _ h; exact h) (Or.inl ⟨by rfl, ?_⟩) (by assumption) ?_
                rotate_left
                · (intro w hSw; (try dsimp only at hSw); go_simp; all_goals with_reducible rfl)
                (try simp only [Act.put, List.setIfInBounds_toArray, List.set_cons_zero, List.set_cons_succ])
                refine wpAnyH_ready (rs := [17]) (by kernel_rfl) (by simp) ?_
                refine (AllReadyH.cons (by rw [List.getElem?_toArray]; rfl) (fun K hK => ?_) AllReadyH.nil)
                go_simp
                refine (CU _ _ _ _ NT.2.1).mono ?_; rintro e v1 ⟨aa, cc, rfl, OG, hb⟩; (have HAP := NT.ns.ap OG (Nat.le_refl _)); (have hbs := NT.lt); clear n0 n1 n2 n3 n4 n5 n6; (replace NT := NT.below hb); (replace hcx := (hb.cell (p := ⟨bs, ri, none⟩) hbl).trans hcx); clear hb hbl; obtain ⟨n0, n1, n2, n3, n4, n5, n6⟩ := id NT.1
                (try go_wp2_with fail)
                refine hK.out _ _ ?_ (fun hHeld => ?_)
                · first | exact hcx | (simp (maxDischargeDepth := 6) [go_sem, *]; done)
                clear hK K
                (try simp only [Act.put, List.setIfInBounds_toArray, List.set_cons_zero, List.set_cons_succ])
                refine wpAnyH_take (i := 18) (v := ?_) (by rw [List.getElem?_toArray]; rfl) (by kernel_rfl) (by kernel_rfl) (by kernel_rfl) (by intro _ _ _ h; exact h) (Or.inl ⟨by rfl, ?_⟩) (by assumption) ?_
                rotate_left
                · (intro w hSw; (try dsimp only at hSw); go_simp; all_goals with_reducible rfl)
                (try simp only [Act.put, List.setIfInBounds_toArray, List.set_cons_zero, List.set_cons_succ])
                refine wpAnyH_take (i := 19) (v := ?_) (by rw [List.getElem?_toArray]; rfl) (by kernel_rfl) (by kernel_rfl) (by kernel_rfl) (by intro _ _ _ h; exact h) (Or.inl ⟨by rfl, ?_⟩) (by assumption) ?_
                rotate_left
                · (intro w hSw; (try dsimp only at hSw); go_simp; all_goals with_reducible rfl)
                (try simp only [Act.put, List.setIfInBounds_toArray, List.set_cons_zero, List.set_cons_succ])
                refine wpAnyH_take (i := 20) (v := ?_) (by rw [List.getElem?_toArray]; rfl) (by kernel_rfl) (by kernel_rfl) (by kernel_rfl) (by intro _ _ _ h; exact h) (Or.inl ⟨by rfl, ?_⟩) (by assumption) ?_
                rotate_left
                · (intro w hSw; (try dsimp only at hSw); go_simp; all_goals with_reducible rfl)
                (try simp only [Act.put, List.setIfInBounds_toArray, List.set_cons_zero, List.set_cons_succ])
                refine wpAnyH_take (i := 21) (v := ?_) (by rw [List.getElem?_toArray]; rfl) (by kernel_rfl) (by kernel_rfl) (by kernel_rfl) (by intro _ _ _ h; exact h) (Or.inl ⟨by rfl, ?_⟩) (by assumption) ?_
                rotate_left
                · (intro w hSw; (try dsimp only at hSw); go_simp; all_goals with_reducible rfl)
                (try simp only [Act.put, List.setIfInBounds_toArray, List.set_cons_zero, List.set_cons_succ])
                refine wpAnyH_ready (rs := [22]) (by kernel_rfl) (by simp) ?_
                refine (AllReadyH.cons (by rw [List.getElem?_toArray]; rfl) (fun K hK => ?_) AllReadyH.nil)
                go_simp
                refine hK.out _ _ ?_ (fun hHeld => ?_)
                · first | exact hcx | (simp (maxDischargeDepth := 6) [go_sem, *]; done)
                clear hK K
                (try simp only [Act.put, List.setIfInBounds_toArray, List.set_cons_zero, List.set_cons_succ])
                refine wpAnyH_done (by kernel_rfl) ?_ _
                have NS3 : Ns w ep us G mm S _ _ := NT.ns.set (Xe := ep) (Xu := us) OG hbs HAP
                clear n0 n1 n2 n3 n4 n5 n6 NT OG HAP hbs hcx
                generalize (((v1.setCell ⟨w.heap.size, 0, none⟩ (.int .i64 ep)).setCell ⟨w.heap.size, 1, none⟩ (.int .i64 us)).setCell ⟨w.heap.size, 2, none⟩ (.slice aa mm cc)) = u2 at *
                go_upto_region 35 with fail
                obtain ⟨ta3, tc3, NT0⟩ := NS3
                have NT3 : Nt w ep us G mm ta3 tc3 S _ _ := NT0
                clear NT0
                have CTK := fun (w' : World) (h : w'.ownsRow (w.heap.size + 1) 34 4 (.slice ta3 mm tc3) mm (krow G mm)) => implTableOk_any ep us ta3 mm tc3 G w' (by have := (tab_nums HT3.out).2.2.1; unfold maxLen; omega) (own_srcK h) (tab_nums HT3.out).2.2.2
                simp only [HT3.out] at CTK
                obtain ⟨n0, n1, n2, n3, n4, n5, n6⟩ := id NT3.1
                go_wp2_with fail
                refine (CTK _ NT3.2.1).mono ?_
                rintro e u9 ⟨rfl, hb⟩
                clear n0 n1 n2 n3 n4 n5 n6
                replace NT3 := NT3.below hb
                clear hb CTK
                go_wp2_with fail
                go_roundw
                case rel => exact ⟨k + 1, ep, us, t9, G, mm, S, by omega, by go_num, rfl, ⟨by omega, by omega⟩, by omega, HT3.out, HSeen.out, by omega, NT3.ns⟩
                case measure => simp [intOf]; omega
              · go_simp
                refine (AZ2 _ NT.bw).mono ?_; rintro e w' ⟨rfl, rfl⟩
                (try go_wp2_with fail)
                refine hK.out _ _ ?_ (fun hHeld => ?_)
                · first | exact hcx | (simp (maxDischargeDepth := 6) [go_sem, *]; done)
                clear hK K
                (try simp only [Act.put, List.setIfInBounds_toArray, List.set_cons_zero, List.set_cons_succ])
                refine wpAnyH_take (i := 9) (v := ?_) (by rw [List.getElem?_toArray]; rfl) (by kernel_rfl) (by kernel_rfl) (by kernel_rfl) (by intro _ _ _ h; exact h) (Or.inl ⟨by rfl, ?_⟩) (by assumption) ?_
                rotate_left
                · (intro w hSw; (try dsimp only at hSw); go_simp; all_goals with_reducible rfl)
                (try simp only [Act.put, List.setIfInBounds_toArray, List.set_cons_zero, List.set_cons_succ])
                refine wpAnyH_take (i := 10) (v := ?_) (by rw [List.getElem?_toArray]; rfl) (by kernel_rfl) (by kernel_rfl) (by kernel_rfl) (by intro _ _ _ h; exact h) (Or.inl ⟨by rfl, ?_⟩) (by assumption) ?_
                rotate_left
                · (intro w hSw; (try dsimp only at hSw); go_simp; all_goals with_reducible rfl)
                (try simp only [Act.put, List.setIfInBounds_toArray, List.set_cons_zero, List.set_cons_succ])
                refine wpAnyH_take (i := 11) (v := ?_) (by rw [List.getElem?_toArray]; rfl) (by kernel_rfl) (by kernel_rfl) (by kernel_rfl) (by intro _ _ _ h; exact h) (Or.inl ⟨by rfl, ?_⟩) (by assumption) ?_
                rotate_left
                · (intro w hSw; (try dsimp only at hSw); go_simp; all_goals with_reducible rfl)
                (try simp only [Act.put, List.setIfInBounds_toArray, List.set_cons_zero, List.set_cons_succ])
                refine wpAnyH_ready (rs := [0, 15]) (by kernel_rfl) (by simp) ?_
                refine (AllReadyH.cons (by rw [List.getElem?_toArray]; rfl) (fun K hK => ?_) (AllReadyH.cons (by rw [List.getElem?_toArray]; rfl) (fun K hK => ?_) AllReadyH.nil))
                · go_simp
                  refine hK.out _ _ ?_ (fun hHeld => ?_)
                  · first | exact hcx | (simp (maxDischargeDepth := 6) [go_sem, *]; done)
                  clear hK K
                  (try simp only [Act.put, List.setIfInBounds_toArray, List.set_cons_zero, List.set_cons_succ])
                  refine wpAnyH_ready (rs := [15]) (by kernel_rfl) (by simp) ?_
                  refine (AllReadyH.cons (by rw [List.getElem?_toArray]; rfl) (fun K hK => ?_) AllReadyH.nil)
                  go_simp
                  refine (AZ0 _ NT.bw).mono ?_; rintro e w' ⟨rfl, rfl⟩
                  (try go_wp2_with fail)
                  refine hK.out _ _ ?_ (fun hHeld => ?_)
                  · first | exact hcx | (simp (maxDischargeDepth := 6) [go_sem, *]; done)
                  clear hK K
                  (try simp only [Act.put, List.setIfInBounds_toArray, List.set_cons_zero, List.set_cons_succ])
                  refine wpAnyH_take (i := 16) (v := ?_) (by rw [List.getElem?_toArray]; rfl) (by kernel_rfl) (by kernel_rfl) (by kernel_rfl) (by intro _ _ _ h; exact h) (Or.inl ⟨by rfl, ?_⟩) (by assumption) ?_
                  rotate_left
                  · (intro w hSw; (try dsimp only at hSw); go_simp; all_goals with_reducible rfl)
                  (try simp only [Act.put, List.setIfInBounds_toArray, List.set_cons_zero, List.set_cons_succ])
                  refine wpAnyH_ready (rs := [17]) (by kernel_rfl) (by simp) ?_
                  refine (AllReadyH.cons (by rw [List.getElem?_toArray]; rfl) (fun K hK => ?_) AllReadyH.nil)
                  go_simp
                  refine (CU _ _ _ _ NT.2.1).mono ?_; rintro e v1 ⟨aa, cc, rfl, OG, hb⟩; (have HAP := NT.ns.ap OG (Nat.le_refl _)); (have hbs := NT.lt); clear n0 n1 n2 n3 n4 n5 n6; (replace NT := NT.below hb); (replace hcx := (hb.cell (p := ⟨bs, ri, none⟩) hbl).trans hcx); clear hb hbl; obtain ⟨n0, n1, n2, n3, n4, n5, n6⟩ := id NT.1
                  (try go_wp2_with fail)
                  refine hK.out _ _ ?_ (fun hHeld => ?_)
                  · first | exact hcx | (simp (maxDischargeDepth := 6) [go_sem, *]; done)
                  clear hK K
                  (try simp only [Act.put, List.setIfInBounds_toArray, List.set_cons_zero, List.set_cons_succ])
                  refine wpAnyH_take (i := 18) (v := ?_) (by rw [List.getElem?_toArray]; rfl) (by kernel_rfl) (by kernel_rfl) (by kernel_rfl) (by intro _ _ _ h; exact h) (Or.inl ⟨by rfl, ?_⟩) (by assumption) ?_
                  rotate_left
                  · (intro w hSw; (try dsimp only at hSw); go_simp; all_goals with_reducible rfl)
                  (try simp only [Act.put, List.setIfInBounds_toArray, List.set_cons_zero, List.set_cons_succ])
                  refine wpAnyH_take (i := 19) (v := ?_) (by rw [List.getElem?_toArray]; rfl) (by kernel_rfl) (by kernel_rfl) (by kernel_rfl) (by intro _ _ _ h; exact h) (Or.inl ⟨by rfl, ?_⟩) (by assumption) ?_
                  rotate_left
                  · (intro w hSw; (try dsimp only at hSw); go_simp; all_goals with_reducible rfl)
                  (try simp only [Act.put, List.setIfInBounds_toArray, List.set_cons_zero, List.set_cons_succ])
                  refine wpAnyH_take (i := 20) (v := ?_) (by rw [List.getElem?_toArray]; rfl) (by kernel_rfl) (by kernel_rfl) (by kernel_rfl) (by intro _ _ _ h; exact h) (Or.inl ⟨by rfl, ?_⟩) (by assumption) ?_
                  rotate_left
                  · (intro w hSw; (try dsimp only at hSw); go_simp; all_goals with_reducible rfl)
                  (try simp only [Act.put, List.setIfInBounds_toArray, List.set_cons_zero, List.set_cons_succ])
                  refine wpAnyH_take (i := 21) (v := ?_) (by rw [List.getElem?_toArray]; rfl) (by kernel_rfl) (by kernel_rfl) (by kernel_rfl) (by intro _ _ _ h; exact h) (Or.inl ⟨by rfl, ?_⟩) (by assumption) ?_
                  rotate_left
                  · (intro w hSw; (try dsimp only at hSw); go_simp; all_goals with_reducible rfl)
                  (try simp only [Act.put, List.setIfInBounds_toArray, List.set_cons_zero, List.set_cons_succ])
                  refine wpAnyH_ready (rs := [22]) (by kernel_rfl) (by simp) ?_
                  refine (AllReadyH.cons (by rw [List.getElem?_toArray]; rfl) (fun K hK => ?_) AllReadyH.nil)
                  go_simp
                  refine hK.out _ _ ?_ (fun hHeld => ?_)
                  · first | exact hcx | (simp (maxDischargeDepth := 6) [go_sem, *]; done)
                  clear hK K
                  (try simp only [Act.put, List.setIfInBounds_toArray, List.set_cons_zero, List.set_cons_succ])
                  refine wpAnyH_done (by kernel_rfl) ?_ _
                  have NS3 : Ns w ep us G mm S _ _ := NT.ns.set (Xe := ep) (Xu := us) OG hbs HAP
                  clear n0 n1 n2 n3 n4 n5 n6 NT OG HAP hbs hcx
                  generalize (((v1.setCell ⟨w.heap.size, 0, none⟩ (.int .i64 ep)).setCell ⟨w.heap.size, 1, none⟩ (.int .i64 us)).setCell ⟨w.heap.size, 2, none⟩ (.slice aa mm cc)) = u2 at *
                  go_upto_region 35 with fail
                  obtain ⟨ta3, tc3, NT0⟩ := NS3
                  have NT3 : Nt w ep us G mm ta3 tc3 S _ _ := NT0
                  clear NT0
                  have CTK := fun (w' : World) (h : w'.ownsRow (w.heap.size + 1) 34 4 (.slice ta3 mm tc3) mm (krow G mm)) => implTableOk_any ep us ta3 mm tc3 G w' (by have := (tab_nums HT3.out).2.2.1; unfold maxLen; omega) (own_srcK h) (tab_nums HT3.out).2.2.2
                  simp only [HT3.out] at CTK
                  obtain ⟨n0, n1, n2, n3, n4, n5, n6⟩ := id NT3.1
                  go_wp2_with fail
                  refine (CTK _ NT3.2.1).mono ?_
                  rintro e u9 ⟨rfl, hb⟩
                  clear n0 n1 n2 n3 n4 n5 n6
                  replace NT3 := NT3.below hb
                  clear hb CTK
                  go_wp2_with fail
                  go_roundw
                  case rel => exact ⟨k + 1, ep, us, t9, G, mm, S, by omega, by go_num, rfl, ⟨by omega, by omega⟩, by omega, HT3.out, HSeen.out, by omega, NT3.ns⟩
                  case measure => simp [intOf]; omega
                · go_simp
                  refine (AZ0 _ NT.bw).mono ?_; rintro e w' ⟨rfl, rfl⟩
                  (try go_wp2_with fail)
                  refine hK.out _ _ ?_ (fun hHeld => ?_)
                  · first | exact hcx | (simp (maxDischargeDepth := 6) [go_sem, *]; done)
                  clear hK K
                  (try simp only [Act.put, List.setIfInBounds_toArray, List.set_cons_zero, List.set_cons_succ])
                  refine wpAnyH_take (i := 16) (v := ?_) (by rw [List.getElem?_toArray]; rfl) (by kernel_rfl) (by kernel_rfl) (by kernel_rfl) (by intro _ _ _ h; exact h) (Or.inl ⟨by rfl, ?_⟩) (by assumption) ?_
                  rotate_left
                  · (intro w hSw; (try dsimp only at hSw); go_simp; all_goals with_reducible rfl)
                  (try simp only [Act.put, List.setIfInBounds_toArray, List.set_cons_zero, List.set_cons_succ])
                  refine wpAnyH_ready (rs := [0]) (by kernel_rfl) (by simp) ?_
                  refine (AllReadyH.cons (by rw [List.getElem?_toArray]; rfl) (fun K hK => ?_) AllReadyH.nil)
                  go_simp
                  refine hK.out _ _ ?_ (fun hHeld => ?_)
                  · first | exact hcx | (simp (maxDischargeDepth := 6) [go_sem, *]; done)
                  clear hK K
                  (try simp only [Act.put, List.setIfInBounds_toArray, List.set_cons_zero, List.set_cons_succ])
                  refine wpAnyH_ready (rs := [17]) (by kernel_rfl) (by simp) ?_
                  refine (AllReadyH.cons (by rw [List.getElem?_toArray]; rfl) (fun K hK => ?_) AllReadyH.nil)
                  go_simp
                  refine (CU _ _ _ _ NT.2.1).mono ?_; rintro e v1 ⟨aa, cc, rfl, OG, hb⟩; (have HAP := NT.ns.ap OG (Nat.le_refl _)); (have hbs := NT.lt); clear n0 n1 n2 n3 n4 n5 n6; (replace NT := NT.below hb); (replace hcx := (hb.cell (p := ⟨bs, ri, none⟩) hbl).trans hcx); clear hb hbl; obtain ⟨n0, n1, n2, n3, n4, n5, n6⟩ := id NT.1
                  (try go_wp2_with fail)
                  refine hK.out _ _ ?_ (fun hHeld => ?_)
                  · first | exact hcx | (simp (maxDischargeDepth := 6) [go_sem, *]; done)
                  clear hK K
                  (try simp only [Act.put, List.setIfInBounds_toArray, List.set_cons_zero, List.set_cons_succ])
                  refine wpAnyH_take (i := 18) (v := ?_) (by rw [List.getElem?_toArray]; rfl) (by kernel_rfl) (by kernel_rfl) (by kernel_rfl) (by intro _ _ _ h; exact h) (Or.inl ⟨by rfl, ?_⟩) (by assumption) ?_
                  rotate_left
                  · (intro w hSw; (try dsimp only at hSw); go_simp; all_goals with_reducible rfl)
                  (try simp only [Act.put, List.setIfInBounds_toArray, List.set_cons_zero, List.set_cons_succ])
                  refine wpAnyH_take (i := 19) (v := ?_) (by rw [List.getElem?_toArray]; rfl) (by kernel_rfl) (by kernel_rfl) (by kernel_rfl) (by intro _ _ _ h; exact h) (Or.inl ⟨by rfl, ?_⟩) (by assumption) ?_
                  rotate_left
                  · (intro w hSw; (try dsimp only at hSw); go_simp; all_goals with_reducible rfl)
                  (try simp only [Act.put, List.setIfInBounds_toArray, List.set_cons_zero, List.set_cons_succ])
                  refine wpAnyH_take (i := 20) (v := ?_) (by rw [List.getElem?_toArray]; rfl) (by kernel_rfl) (by kernel_rfl) (by kernel_rfl) (by intro _ _ _ h; exact h) (Or.inl ⟨by rfl, ?_⟩) (by assumption) ?_
                  rotate_left
                  · (intro w hSw; (try dsimp only at hSw); go_simp; all_goals with_reducible rfl)
                  (try simp only [Act.put, List.setIfInBounds_toArray, List.set_cons_zero, List.set_cons_succ])
                  refine wpAnyH_take (i := 21) (v := ?_) (by rw [List.getElem?_toArray]; rfl) (by kernel_rfl) (by kernel_rfl) (by kernel_rfl) (by intro _ _ _ h; exact h) (Or.inl ⟨by rfl, ?_⟩) (by assumption) ?_
                  rotate_left
                  · (intro w hSw; (try dsimp only at hSw); go_simp; all_goals with_reducible rfl)
                  (try simp only [Act.put, List.setIfInBounds_toArray, List.set_cons_zero, List.set_cons_succ])
                  refine wpAnyH_ready (rs := [22]) (by kernel_rfl) (by simp) ?_
                  refine (AllReadyH.cons (by rw [List.getElem?_toArray]; rfl) (fun K hK => ?_) AllReadyH.nil)
                  go_simp
                  refine hK.out _ _ ?_ (fun hHeld => ?_)
                  · first | exact hcx | (simp (maxDischargeDepth := 6) [go_sem, *]; done)
                  clear hK K
                  (try simp only [Act.put, List.setIfInBounds_toArray, List.set_cons_zero, List.set_cons_succ])
                  refine wpAnyH_done (by kernel_rfl) ?_ _
                  have NS3 : Ns w ep us G mm S _ _ := NT.ns.set (Xe := ep) (Xu := us) OG hbs HAP
                  clear n0 n1 n2 n3 n4 n5 n6 NT OG HAP hbs hcx
                  generalize (((v1.setCell ⟨w.heap.size, 0, none⟩ (.int .i64 ep)).setCell ⟨w.heap.size, 1, none⟩ (.int .i64 us)).setCell ⟨w.heap.size, 2, none⟩ (.slice aa mm cc)) = u2 at *
                  go_upto_region 35 with fail
                  obtain ⟨ta3, tc3, NT0⟩ := NS3
                  have NT3 : Nt w ep us G mm ta3 tc3 S _ _ := NT0
                  clear NT0
                  have CTK := fun (w' : World) (h : w'.ownsRow (w.heap.size + 1) 34 4 (.slice ta3 mm tc3) mm (krow G mm)) => implTableOk_any ep us ta3 mm tc3 G w' (by have := (tab_nums HT3.out).2.2.1; unfold maxLen; omega) (own_srcK h) (tab_nums HT3.out).2.2.2
                  simp only [HT3.out] at CTK
                  obtain ⟨n0, n1, n2, n3, n4, n5, n6⟩ := id NT3.1
                  go_wp2_with fail
                  refine (CTK _ NT3.2.1).mono ?_
                  rintro e u9 ⟨rfl, hb⟩
                  clear n0 n1 n2 n3 n4 n5 n6
                  replace NT3 := NT3.below hb
                  clear hb CTK
                  go_wp2_with fail
                  go_roundw
                  case rel => exact ⟨k + 1, ep, us, t9, G, mm, S, by omega, by go_num, rfl, ⟨by omega, by omega⟩, by omega, HT3.out, HSeen.out, by omega, NT3.ns⟩
                  case measure => simp [intOf]; omega
          have c4' : (r == 4) = false := beq_eq_false_iff_ne.2 c4
          as_aux_lemma =>
            have hb1 : IntKind.i64.wrap (ep + 1) = ep + 1 := Go.IntWalk.i64_in _ ⟨by omega, by omega⟩
            have CB := fun (w' : World) (h : w'.ownsRow (w.heap.size + 1) 34 4 (.slice ta n tc) n (krow M n)) => boot_one HTab.out (by omega) w' _ ta tc h
            obtain ⟨n0, n1, n2, n3, n4, n5, n6⟩ := id NT.1
            go_wp2_with fail
            refine (CB _ NT.2.1).mono ?_
            rintro e v1 ⟨aa, cc, rfl, OG, hb⟩
            have HAP := NT.ns.ap OG (Nat.le_refl _)
            have hbs := NT.lt
            clear n0 n1 n2 n3 n4 n5 n6
            replace NT := NT.below hb
            clear hb CB
            obtain ⟨n0, n1, n2, n3, n4, n5, n6⟩ := id NT.1
            have NS3 : Ns w (ep + 1) 0 M 0 S _ _ := NT.ns.set (Xe := ep + 1) (Xu := 0) OG hbs HAP
            have HT3 : Hid (tabB (ep + 1) 0 M 0 = true) := tab_new (decide_eq_true (by omega)) M
            go_upto_region 35 with fail
            clear n0 n1 n2 n3 n4 n5 n6 NT OG HAP hbs
            generalize (((v1.setCell ⟨w.heap.size, 0, none⟩ (.int .i64 (ep + 1))).setCell ⟨w.heap.size, 1, none⟩ (.int .i64 0)).setCell ⟨w.heap.size, 2, none⟩ (.slice aa 0 cc)) = u2 at *
            generalize hep : ep + 1 = ep1 at *
            have hep' : ep1 ≤ (k : Int) + 1 := by omega
            have HSB : Hid (SeenOk ep1 0 S) := by rw [← hep]; exact HSeen.out.boot hu1
            clear hep
            obtain ⟨ta3, tc3, NT0⟩ := NS3
            have NT3 : Nt w ep1 0 M 0 ta3 tc3 S _ _ := NT0
            clear NT0
            have CTK := fun (w' : World) (h : w'.ownsRow (w.heap.size + 1) 34 4 (.slice ta3 0 tc3) 0 (krow M 0)) => implTableOk_any ep1 0 ta3 0 tc3 M w' (by have := (tab_nums HT3.out).2.2.1; unfold maxLen; omega) (own_srcK h) (tab_nums HT3.out).2.2.2
            simp only [HT3.out] at CTK
            obtain ⟨n0, n1, n2, n3, n4, n5, n6⟩ := id NT3.1
            go_wp2_with fail
            refine (CTK _ NT3.2.1).mono ?_
            rintro e u9 ⟨rfl, hb⟩
            clear n0 n1 n2 n3 n4 n5 n6
            replace NT3 := NT3.below hb
            clear hb CTK
            go_wp2_with fail
            go_roundw
            case rel => exact ⟨k + 1, ep1, 0, t9, M, 0, S, by omega, by go_num, rfl, ⟨by omega, by omega⟩, by omega, HT3.out, HSB.out, by omega, NT3.ns⟩
            case measure => simp [intOf]; omega
    · by_cases hk1 : k < 40
      · have hki : (k : Int) < 40 := by omega
        have hki2 : decide ((k : Int) < 8 + (l0 : Int)) = false := by simp; omega
        as_aux_lemma =>
          obtain ⟨ta, tc, NT0⟩ := NS
          have OV := NT0.2.2.1
          have BW := NT0.2.2.2.2
          clear NT0 HTab HWF
          obtain ⟨av, cv, rfl⟩ := own_sliceN OV
          go_wp2_with fail
          go_loopw [20] (fun i wx => ∃ q : Nat, q ≤ S.length ∧ i = .int .i64 q ∧ Below wr.heap.size wr wx) (fun i _ => S.length - (intOf i).toNat)
          case atStart => exact ⟨0, Nat.zero_le _, rfl, Below.refl _ _⟩
          case round =>
            obtain ⟨q, hq, rfl, hB⟩ := hrel
            by_cases hql : q < S.length
            · have hli2 : (q : Int) < (S.length : Int) := by omega
              obtain ⟨bs, rfl, hbl, hce⟩ := own_cellI (own_belK' OV hB) (by omega)
              have d1 := hce q hql
              have hs1 := HSeen.out.2 _ (gI_in hql)
              obtain ⟨g1, g2, g3⟩ := seen_parts hs1.1 (show gI S q ≤ 100000999 by omega)
              have hwf1 := wf_small hs1.1 (show gI S q ≤ 1000000000 by omega)
              by_cases hpos : 0 < q
              · obtain ⟨qq, hqq⟩ : ∃ qq, q = qq + 1 := ⟨q - 1, by omega⟩
                have hge : decide (gI S q ≤ gI S qq) = false := by
                  have := gI_asc HSeen.out.1 (k := qq) (by omega)
                  rw [hqq]
                  exact decide_eq_false (by omega)
                have d0 := hce qq (by omega)
                have hpi : (0 : Int) < (q : Int) := by omega
                have hk1 : (q : Int) - 1 = (qq : Int) := by omega
                have hw1 : IntKind.i64.wrap (qq : Int) = (qq : Int) := Go.IntWalk.i64_in _ ⟨by omega, by omega⟩
                have hkl' : (qq : Int) < (S.length : Int) := by omega
                clear hqq hce hs1
                have CP := fun (w' : World) => implNonceParts_any (gI S q) w' hwf1
                have CN := fun (w' : World) => implNonceOf_any (npE (gI S q)) (npK (gI S q)) w'
                simp only [g1] at CP
                simp only [g2, g3] at CN
                clear g1 g2 g3 hwf1
                generalize npE (gI S q) = e1 at *
                generalize npK (gI S q) = k1 at *
                generalize gI S q = s1 at *
                generalize gI S qq = s0 at *
                go_wp2_with fail
                refine (CP _).mono ?_
                rintro e w' ⟨rfl, rfl⟩
                go_wp2_with fail
                refine (CN _).mono ?_
                rintro e w' ⟨rfl, rfl⟩
                go_upto_region 42 with fail
                refine wp_region_held_drew (S := (fun w' => w'.cell? ⟨bs, q, none⟩ = some (.int .i64 s1) ∧ w'.cell? ⟨bs, qq, none⟩ = some (.int .i64 s0))) (by kernel_rfl) ?_ (fun hHeld => ?_)
                · first | exact ⟨d1, d0⟩ | (simp (maxDischargeDepth := 6) [go_sem, *]; done)
                refine wpAnyH_take (i := 0) (v := ?_) (by rw [List.getElem?_toArray]; rfl) (by kernel_rfl) (by kernel_rfl) (by kernel_rfl) (by intro _ _ _ h; exact h) (Or.inl ⟨by rfl, ?_⟩) (by assumption) ?_
                rotate_left
                · (intro w hSw; (try dsimp only at hSw); go_simp; all_goals with_reducible rfl)
                (try simp only [Act.put, List.setIfInBounds_toArray, List.set_cons_zero, List.set_cons_succ])
                refine wpAnyH_take (i := 1) (v := ?_) (by rw [List.getElem?_toArray]; rfl) (by kernel_rfl) (by kernel_rfl) (by kernel_rfl) (by intro _ _ _ h; exact h) (Or.inl ⟨by rfl, ?_⟩) (by assumption) ?_
                rotate_left
                · (intro w hSw; (try dsimp only at hSw); go_simp; all_goals with_reducible rfl)
                (try simp only [Act.put, List.setIfInBounds_toArray, List.set_cons_zero, List.set_cons_succ])
                refine wpAnyH_take (i := 2) (v := ?_) (by rw [List.getElem?_toArray]; rfl) (by kernel_rfl) (by kernel_rfl) (by kernel_rfl) (by intro _ _ _ h; exact h) (Or.inl ⟨by rfl, ?_⟩) (by assumption) ?_
                rotate_left
                · (intro w hSw; (try dsimp only at hSw); go_simp; all_goals with_reducible rfl)
                (try simp only [Act.put, List.setIfInBounds_toArray, List.set_cons_zero, List.set_cons_succ])
                refine wpAnyH_take (i := 3) (v := ?_) (by rw [List.getElem?_toArray]; rfl) (by kernel_rfl) (by kernel_rfl) (by kernel_rfl) (by intro _ _ _ h; exact h) (Or.inl ⟨by rfl, ?_⟩) (by assumption) ?_
                rotate_left
                · (intro w hSw; (try dsimp only at hSw); go_simp; all_goals with_reducible rfl)
                (try simp only [Act.put, List.setIfInBounds_toArray, List.set_cons_zero, List.set_cons_succ])
                refine wpAnyH_take (i := 4) (v := ?_) (by rw [List.getElem?_toArray]; rfl) (by kernel_rfl) (by kernel_rfl) (by kernel_rfl) (by intro _ _ _ h; exact h) (Or.inl ⟨by rfl, ?_⟩) (by assumption) ?_
                rotate_left
                · (intro w hSw; (try dsimp only at hSw); go_simp; all_goals with_reducible rfl)
                (try simp only [Act.put, List.setIfInBounds_toArray, List.set_cons_zero, List.set_cons_succ])
                refine wpAnyH_take (i := 5) (v := ?_) (by rw [List.getElem?_toArray]; rfl) (by kernel_rfl) (by kernel_rfl) (by kernel_rfl) (by intro _ _ _ h; exact h) (Or.inl ⟨by rfl, ?_⟩) (by assumption) ?_
                rotate_left
                · (intro w hSw; (try dsimp only at hSw); go_simp; all_goals with_reducible rfl)
                (try simp only [Act.put, List.setIfInBounds_toArray, List.set_cons_zero, List.set_cons_succ])
                refine wpAnyH_take (i := 6) (v := ?_) (by rw [List.getElem?_toArray]; rfl) (by kernel_rfl) (by kernel_rfl) (by kernel_rfl) (by intro _ _ _ h; exact h) (Or.inl ⟨by rfl, ?_⟩) (by assumption) ?_
                rotate_left
                · (intro w hSw; (try dsimp only at hSw); go_simp; all_goals with_reducible rfl)
                (try simp only [Act.put, List.setIfInBounds_toArray, List.set_cons_zero, List.set_cons_succ])
                refine wpAnyH_take (i := 7) (v := ?_) (by rw [List.getElem?_toArray]; rfl) (by kernel_rfl) (by kernel_rfl) (by kernel_rfl) (by intro _ _ _ h; exact h) (Or.inl ⟨by rfl, ?_⟩) (by assumption) ?_
                rotate_left
                · (intro w hSw; (try dsimp only at hSw); go_simp; all_goals with_reducible rfl)
                (try simp only [Act.put, List.setIfInBounds_toArray, List.set_cons_zero, List.set_cons_succ])
                refine wpAnyH_take (i := 8) (v := ?_) (by rw [List.getElem?_toArray]; rfl) (by kernel_rfl) (by kernel_rfl) (by kernel_rfl) (by intro _ _ _ h; exact h) (Or.inl ⟨by rfl, ?_⟩) (by assumption) ?_
                rotate_left
                · (intro w hSw; (try dsimp only at hSw); go_simp; all_goals with_reducible rfl)
                (try simp only [Act.put, List.setIfInBounds_toArray, List.set_cons_zero, List.set_cons_succ])
                refine wpAnyH_take (i := 9) (v := ?_) (by rw [List.getElem?_toArray]; rfl) (by kernel_rfl) (by kernel_rfl) (by kernel_rfl) (by intro _ _ _ h; exact h) (Or.inl ⟨by rfl, ?_⟩) (by assumption) ?_
                rotate_left
                · (intro w hSw; (try dsimp only at hSw); go_simp; all_goals with_reducible rfl)
                (try simp only [Act.put, List.setIfInBounds_toArray, List.set_cons_zero, List.set_cons_succ])
                refine wpAnyH_take (i := 10) (v := ?_) (by rw [List.getElem?_toArray]; rfl) (by kernel_rfl) (by kernel_rfl) (by kernel_rfl) (by intro _ _ _ h; exact h) (Or.inl ⟨by rfl, ?_⟩) (by assumption) ?_
                rotate_left
                · (intro w hSw; (try dsimp only at hSw); go_simp; all_goals with_reducible rfl)
                (try simp only [Act.put, List.setIfInBounds_toArray, List.set_cons_zero, List.set_cons_succ])
                refine wpAnyH_take (i := 11) (v := ?_) (by rw [List.getElem?_toArray]; rfl) (by kernel_rfl) (by kernel_rfl) (by kernel_rfl) (by intro _ _ _ h; exact h) (Or.inl ⟨by rfl, ?_⟩) (by assumption) ?_
                rotate_left
                · (intro w hSw; (try dsimp only at hSw); go_simp; all_goals with_reducible rfl)
                (try simp only [Act.put, List.setIfInBounds_toArray, List.set_cons_zero, List.set_cons_succ])
                refine wpAnyH_take (i := 12) (v := ?_) (by rw [List.getElem?_toArray]; rfl) (by kernel_rfl) (by kernel_rfl) (by kernel_rfl) (by intro _ _ _ h; exact h) (Or.inl ⟨by rfl, ?_⟩) (by assumption) ?_
                rotate_left
                · (intro w hSw; (try dsimp only at hSw); go_simp; all_goals with_reducible rfl)
                (try simp only [Act.put, List.setIfInBounds_toArray, List.set_cons_zero, List.set_cons_succ])
                refine wpAnyH_take (i := 13) (v := ?_) (by rw [List.getElem?_toArray]; rfl) (by kernel_rfl) (by kernel_rfl) (by kernel_rfl) (by intro _ _ _ h; exact h) (Or.inl ⟨by rfl, ?_⟩) (by assumption) ?_
                rotate_left
                · (intro w hSw; (try dsimp only at hSw); go_simp; all_goals with_reducible rfl)
                (try simp only [Act.put, List.setIfInBounds_toArray, List.set_cons_zero, List.set_cons_succ])
                refine wpAnyH_take (i := 14) (v := ?_) (by rw [List.getElem?_toArray]; rfl) (by kernel_rfl) (by kernel_rfl) (by kernel_rfl) (by intro _ _ _ h; exact h) (Or.inl ⟨by rfl, ?_⟩) (by assumption) ?_
                rotate_left
                · (intro w hSw; (try dsimp only at hSw); go_simp; all_goals with_reducible rfl)
                (try simp only [Act.put, List.setIfInBounds_toArray, List.set_cons_zero, List.set_cons_succ])
                refine wpAnyH_take (i := 15) (v := ?_) (by rw [List.getElem?_toArray]; rfl) (by kernel_rfl) (by kernel_rfl) (by kernel_rfl) (by intro _ _ _ h; exact h) (Or.inl ⟨by rfl, ?_⟩) (by assumption) ?_
                rotate_left
                · (intro w hSw; (try dsimp only at hSw); go_simp; all_goals with_reducible rfl)
                (try simp only [Act.put, List.setIfInBounds_toArray, List.set_cons_zero, List.set_cons_succ])
                refine wpAnyH_take (i := 16) (v := ?_) (by rw [List.getElem?_toArray]; rfl) (by kernel_rfl) (by kernel_rfl) (by kernel_rfl) (by intro _ _ _ h; exact h) (Or.inl ⟨by rfl, ?_⟩) (by assumption) ?_
                rotate_left
                · (intro w hSw; (try dsimp only at hSw); go_simp; all_goals with_reducible rfl)
                (try simp only [Act.put, List.setIfInBounds_toArray, List.set_cons_zero, List.set_cons_succ])
                refine wpAnyH_take (i := 17) (v := ?_) (by rw [List.getElem?_toArray]; rfl) (by kernel_rfl) (by kernel_rfl) (by kernel_rfl) (by intro _ _ _ h; exact h) (Or.inl ⟨by rfl, ?_⟩) (by assumption) ?_
                rotate_left
                · (intro w hSw; (try dsimp only at hSw); go_simp; all_goals with_reducible rfl)
                (try simp only [Act.put, List.setIfInBounds_toArray, List.set_cons_zero, List.set_cons_succ])
                refine wpAnyH_take (i := 18) (v := ?_) (by rw [List.getElem?_toArray]; rfl) (by kernel_rfl) (by kernel_rfl) (by kernel_rfl) (by intro _ _ _ h; exact h) (Or.inl ⟨by rfl, ?_⟩) (by assumption) ?_
                rotate_left
                · (intro w hSw; (try dsimp only at hSw); go_simp; all_goals with_reducible rfl)
                (try simp only [Act.put, List.setIfInBounds_toArray, List.set_cons_zero, List.set_cons_succ])
                refine wpAnyH_take (i := 19) (v := ?_) (by rw [List.getElem?_toArray]; rfl) (by kernel_rfl) (by kernel_rfl) (by kernel_rfl) (by intro _ _ _ h; exact h) (Or.inl ⟨by rfl, ?_⟩) (by assumption) ?_
                rotate_left
                · (intro w hSw; (try dsimp only at hSw); go_simp; all_goals with_reducible rfl)
                (try simp only [Act.put, List.setIfInBounds_toArray, List.set_cons_zero, List.set_cons_succ])
                refine wpAnyH_take (i := 20) (v := ?_) (by rw [List.getElem?_toArray]; rfl) (by kernel_rfl) (by kernel_rfl) (by kernel_rfl) (by intro _ _ _ h; exact h) (Or.inl ⟨by rfl, ?_⟩) (by assumption) ?_
                rotate_left
                · (intro w hSw; (try dsimp only at hSw); go_simp; all_goals with_reducible rfl)
                (try simp only [Act.put, List.setIfInBounds_toArray, List.set_cons_zero, List.set_cons_succ])
                refine wpAnyH_take (i := 21) (v := ?_) (by rw [List.getElem?_toArray]; rfl) (by kernel_rfl) (by kernel_rfl) (by kernel_rfl) (by intro _ _ _ h; exact h) (Or.inl ⟨by rfl, ?_⟩) (by assumption) ?_
                rotate_left
                · (intro w hSw; (try dsimp only at hSw); go_simp; all_goals with_reducible rfl)
                (try simp only [Act.put, List.setIfInBounds_toArray, List.set_cons_zero, List.set_cons_succ])
                refine wpAnyH_take (i := 22) (v := ?_) (by rw [List.getElem?_toArray]; rfl) (by kernel_rfl) (by kernel_rfl) (by kernel_rfl) (by intro _ _ _ h; exact h) (Or.inl ⟨by rfl, ?_⟩) (by assumption) ?_
                rotate_left
                · (intro w hSw; (try dsimp only at hSw); go_simp; all_goals with_reducible rfl)
                (try simp only [Act.put, List.setIfInBounds_toArray, List.set_cons_zero, List.set_cons_succ])
                refine wpAnyH_take (i := 23) (v := ?_) (by rw [List.getElem?_toArray]; rfl) (by kernel_rfl) (by kernel_rfl) (by kernel_rfl) (by intro _ _ _ h; exact h) (Or.inl ⟨by rfl, ?_⟩) (by assumption) ?_
                rotate_left
                · (intro w hSw; (try dsimp only at hSw); go_simp; all_goals with_reducible rfl)
                (try simp only [Act.put, List.setIfInBounds_toArray, List.set_cons_zero, List.set_cons_succ])
                refine wpAnyH_take (i := 24) (v := ?_) (by rw [List.getElem?_toArray]; rfl) (by kernel_rfl) (by kernel_rfl) (by kernel_rfl) (by intro _ _ _ h; exact h) (Or.inl ⟨by rfl, ?_⟩) (by assumption) ?_
                rotate_left
                · (intro w hSw; (try dsimp only at hSw); go_simp; all_goals with_reducible rfl)
                (try simp only [Act.put, List.setIfInBounds_toArray, List.set_cons_zero, List.set_cons_succ])
                refine wpAnyH_take (i := 25) (v := ?_) (by rw [List.getElem?_toArray]; rfl) (by kernel_rfl) (by kernel_rfl) (by kernel_rfl) (by intro _ _ _ h; exact h) (Or.inl ⟨by rfl, ?_⟩) (by assumption) ?_
                rotate_left
                · (intro w hSw; (try dsimp only at hSw); go_simp; all_goals with_reducible rfl)
                (try simp only [Act.put, List.setIfInBounds_toArray, List.set_cons_zero, List.set_cons_succ])
                refine wpAnyH_take (i := 26) (v := ?_) (by rw [List.getElem?_toArray]; rfl) (by kernel_rfl) (by kernel_rfl) (by kernel_rfl) (by intro _ _ _ h; exact h) (Or.inl ⟨by rfl, ?_⟩) (by assumption) ?_
                rotate_left
                · (intro w hSw; (try dsimp only at hSw); go_simp; all_goals with_reducible rfl)
                (try simp only [Act.put, List.setIfInBounds_toArray, List.set_cons_zero, List.set_cons_succ])
                refine wpAnyH_take (i := 27) (v := ?_) (by rw [List.getElem?_toArray]; rfl) (by kernel_rfl) (by kernel_rfl) (by kernel_rfl) (by intro _ _ _ h; exact h) (Or.inl ⟨by rfl, ?_⟩) (by assumption) ?_
                rotate_left
                · (intro w hSw; (try dsimp only at hSw); go_simp; all_goals with_reducible rfl)
                (try simp only [Act.put, List.setIfInBounds_toArray, List.set_cons_zero, List.set_cons_succ])
                (try simp only [hge])
                refine wpAnyH_take (i := 28) (v := ?_) (by rw [List.getElem?_toArray]; rfl) (by kernel_rfl) (by kernel_rfl) (by kernel_rfl) (by intro _ _ _ h; exact h) (Or.inl ⟨by rfl, ?_⟩) (by assumption) ?_
                rotate_left
                · (intro w hSw; (try dsimp only at hSw); go_simp; all_goals with_reducible rfl)
                (try simp only [Act.put, List.setIfInBounds_toArray, List.set_cons_zero, List.set_cons_succ])
                refine wpAnyH_take (i := 29) (v := ?_) (by rw [List.getElem?_toArray]; rfl) (by kernel_rfl) (by kernel_rfl) (by kernel_rfl) (by intro _ _ _ h; exact h) (Or.inl ⟨by rfl, ?_⟩) (by assumption) ?_
                rotate_left
                · (intro w hSw; (try dsimp only at hSw); go_simp; all_goals with_reducible rfl)
                (try simp only [Act.put, List.setIfInBounds_toArray, List.set_cons_zero, List.set_cons_succ])
                refine wpAnyH_done (by kernel_rfl) ?_ _
                go_wp2_with fail
                go_roundw
                case rel => exact ⟨q + 1, by omega, by go_num, Below.drew hB⟩
                case measure => simp [intOf]; omega
              · have hpi : decide ((0 : Int) < (q : Int)) = false := by simp; omega
                clear hce hs1
                have CP := fun (w' : World) => implNonceParts_any (gI S q) w' hwf1
                have CN := fun (w' : World) => implNonceOf_any (npE (gI S q)) (npK (gI S q)) w'
                simp only [g1] at CP
                simp only [g2, g3] at CN
                clear g1 g2 g3 hwf1
                generalize npE (gI S q) = e1 at *
                generalize npK (gI S q) = k1 at *
                generalize gI S q = s1 at *
                go_wp2_with fail
                refine (CP _).mono ?_
                rintro e w' ⟨rfl, rfl⟩
                go_wp2_with fail
                refine (CN _).mono ?_
                rintro e w' ⟨rfl, rfl⟩
                go_upto_region 42 with fail
                refine wp_region_held_drew (S := (fun w' => w'.cell? ⟨bs, q, none⟩ = some (.int .i64 s1))) (by kernel_rfl) ?_ (fun hHeld => ?_)
                · first | exact d1 | (simp (maxDischargeDepth := 6) [go_sem, *]; done)
                refine wpAnyH_take (i := 0) (v := ?_) (by rw [List.getElem?_toArray]; rfl) (by kernel_rfl) (by kernel_rfl) (by kernel_rfl) (by intro _ _ _ h; exact h) (Or.inl ⟨by rfl, ?_⟩) (by assumption) ?_
                rotate_left
                · (intro w hSw; (try dsimp only at hSw); go_simp; all_goals with_reducible rfl)
                (try simp only [Act.put, List.setIfInBounds_toArray, List.set_cons_zero, List.set_cons_succ])
                refine wpAnyH_take (i := 1) (v := ?_) (by rw [List.getElem?_toArray]; rfl) (by kernel_rfl) (by kernel_rfl) (by kernel_rfl) (by intro _ _ _ h; exact h) (Or.inl ⟨by rfl, ?_⟩) (by assumption) ?_
                rotate_left
                · (intro w hSw; (try dsimp only at hSw); go_simp; all_goals with_reducible rfl)
                (try simp only [Act.put, List.setIfInBounds_toArray, List.set_cons_zero, List.set_cons_succ])
                refine wpAnyH_take (i := 2) (v := ?_) (by rw [List.getElem?_toArray]; rfl) (by kernel_rfl) (by kernel_rfl) (by kernel_rfl) (by intro _ _ _ h; exact h) (Or.inl ⟨by rfl, ?_⟩) (by assumption) ?_
                rotate_left
                · (intro w hSw; (try dsimp only at hSw); go_simp; all_goals with_reducible rfl)
                (try simp only [Act.put, List.setIfInBounds_toArray, List.set_cons_zero, List.set_cons_succ])
                refine wpAnyH_take (i := 3) (v := ?_) (by rw [List.getElem?_toArray]; rfl) (by kernel_rfl) (by kernel_rfl) (by kernel_rfl) (by intro _ _ _ h; exact h) (Or.inl ⟨by rfl, ?_⟩) (by assumption) ?_
                rotate_left
                · (intro w hSw; (try dsimp only at hSw); go_simp; all_goals with_reducible rfl)
                (try simp only [Act.put, List.setIfInBounds_toArray, List.set_cons_zero, List.set_cons_succ])
                refine wpAnyH_take (i := 4) (v := ?_) (by rw [List.getElem?_toArray]; rfl) (by kernel_rfl) (by kernel_rfl) (by kernel_rfl) (by intro _ _ _ h; exact h) (Or.inl ⟨by rfl, ?_⟩) (by assumption) ?_
                rotate_left
                · (intro w hSw; (try dsimp only at hSw); go_simp; all_goals with_reducible rfl)
                (try simp only [Act.put, List.setIfInBounds_toArray, List.set_cons_zero, List.set_cons_succ])
                refine wpAnyH_take (i := 5) (v := ?_) (by rw [List.getElem?_toArray]; rfl) (by kernel_rfl) (by kernel_rfl) (by kernel_rfl) (by intro _ _ _ h; exact h) (Or.inl ⟨by rfl, ?_⟩) (by assumption) ?_
                rotate_left
                · (intro w hSw; (try dsimp only at hSw); go_simp; all_goals with_reducible rfl)
                (try simp only [Act.put, List.setIfInBounds_toArray, List.set_cons_zero, List.set_cons_succ])
                refine wpAnyH_take (i := 6) (v := ?_) (by rw [List.getElem?_toArray]; rfl) (by kernel_rfl) (by kernel_rfl) (by kernel_rfl) (by intro _ _ _ h; exact h) (Or.inl ⟨by rfl, ?_⟩) (by assumption) ?_
                rotate_left
                · (intro w hSw; (try dsimp only at hSw); go_simp; all_goals with_reducible rfl)
                (try simp only [Act.put, List.setIfInBounds_toArray, List.set_cons_zero, List.set_cons_succ])
                refine wpAnyH_take (i := 7) (v := ?_) (by rw [List.getElem?_toArray]; rfl) (by kernel_rfl) (by kernel_rfl) (by kernel_rfl) (by intro _ _ _ h; exact h) (Or.inl ⟨by rfl, ?_⟩) (by assumption) ?_
                rotate_left
                · (intro w hSw; (try dsimp only at hSw); go_simp; all_goals with_reducible rfl)
                (try simp only [Act.put, List.setIfInBounds_toArray, List.set_cons_zero, List.set_cons_succ])
                refine wpAnyH_take (i := 8) (v := ?_) (by rw [List.getElem?_toArray]; rfl) (by kernel_rfl) (by kernel_rfl) (by kernel_rfl) (by intro _ _ _ h; exact h) (Or.inl ⟨by rfl, ?_⟩) (by assumption) ?_
                rotate_left
                · (intro w hSw; (try dsimp only at hSw); go_simp; all_goals with_reducible rfl)
                (try simp only [Act.put, List.setIfInBounds_toArray, List.set_cons_zero, List.set_cons_succ])
                refine wpAnyH_take (i := 9) (v := ?_) (by rw [List.getElem?_toArray]; rfl) (by kernel_rfl) (by kernel_rfl) (by kernel_rfl) (by intro _ _ _ h; exact h) (Or.inl ⟨by rfl, ?_⟩) (by assumption) ?_
                rotate_left
                · (intro w hSw; (try dsimp only at hSw); go_simp; all_goals with_reducible rfl)
                (try simp only [Act.put, List.setIfInBounds_toArray, List.set_cons_zero, List.set_cons_succ])
                refine wpAnyH_take (i := 10) (v := ?_) (by rw [List.getElem?_toArray]; rfl) (by kernel_rfl) (by kernel_rfl) (by kernel_rfl) (by intro _ _ _ h; exact h) (Or.inl ⟨by rfl, ?_⟩) (by assumption) ?_
                rotate_left
                · (intro w hSw; (try dsimp only at hSw); go_simp; all_goals with_reducible rfl)
                (try simp only [Act.put, List.setIfInBounds_toArray, List.set_cons_zero, List.set_cons_succ])
                refine wpAnyH_take (i := 11) (v := ?_) (by rw [List.getElem?_toArray]; rfl) (by kernel_rfl) (by kernel_rfl) (by kernel_rfl) (by intro _ _ _ h; exact h) (Or.inl ⟨by rfl, ?_⟩) (by assumption) ?_
                rotate_left
                · (intro w hSw; (try dsimp only at hSw); go_simp; all_goals with_reducible rfl)
                (try simp only [Act.put, List.setIfInBounds_toArray, List.set_cons_zero, List.set_cons_succ])
                refine wpAnyH_take (i := 12) (v := ?_) (by rw [List.getElem?_toArray]; rfl) (by kernel_rfl) (by kernel_rfl) (by kernel_rfl) (by intro _ _ _ h; exact h) (Or.inl ⟨by rfl, ?_⟩) (by assumption) ?_
                rotate_left
                · (intro w hSw; (try dsimp only at hSw); go_simp; all_goals with_reducible rfl)
                (try simp only [Act.put, List.setIfInBounds_toArray, List.set_cons_zero, List.set_cons_succ])
                refine wpAnyH_take (i := 13) (v := ?_) (by rw [List.getElem?_toArray]; rfl) (by kernel_rfl) (by kernel_rfl) (by kernel_rfl) (by intro _ _ _ h; exact h) (Or.inl ⟨by rfl, ?_⟩) (by assumption) ?_
                rotate_left
                · (intro w hSw; (try dsimp only at hSw); go_simp; all_goals with_reducible rfl)
                (try simp only [Act.put, List.setIfInBounds_toArray, List.set_cons_zero, List.set_cons_succ])
                refine wpAnyH_take (i := 14) (v := ?_) (by rw [List.getElem?_toArray]; rfl) (by kernel_rfl) (by kernel_rfl) (by kernel_rfl) (by intro _ _ _ h; exact h) (Or.inl ⟨by rfl, ?_⟩) (by assumption) ?_
                rotate_left
                · (intro w hSw; (try dsimp only at hSw); go_simp; all_goals with_reducible rfl)
                (try simp only [Act.put, List.setIfInBounds_toArray, List.set_cons_zero, List.set_cons_succ])
                refine wpAnyH_take (i := 15) (v := ?_) (by rw [List.getElem?_toArray]; rfl) (by kernel_rfl) (by kernel_rfl) (by kernel_rfl) (by intro _ _ _ h; exact h) (Or.inl ⟨by rfl, ?_⟩) (by assumption) ?_
                rotate_left
                · (intro w hSw; (try dsimp only at hSw); go_simp; all_goals with_reducible rfl)
                (try simp only [Act.put, List.setIfInBounds_toArray, List.set_cons_zero, List.set_cons_succ])
                refine wpAnyH_take (i := 16) (v := ?_) (by rw [List.getElem?_toArray]; rfl) (by kernel_rfl) (by kernel_rfl) (by kernel_rfl) (by intro _ _ _ h; exact h) (Or.inl ⟨by rfl, ?_⟩) (by assumption) ?_
                rotate_left
                · (intro w hSw; (try dsimp only at hSw); go_simp; all_goals with_reducible rfl)
                (try simp only [Act.put, List.setIfInBounds_toArray, List.set_cons_zero, List.set_cons_succ])
                refine wpAnyH_take (i := 17) (v := ?_) (by rw [List.getElem?_toArray]; rfl) (by kernel_rfl) (by kernel_rfl) (by kernel_rfl) (by intro _ _ _ h; exact h) (Or.inl ⟨by rfl, ?_⟩) (by assumption) ?_
                rotate_left
                · (intro w hSw; (try dsimp only at hSw); go_simp; all_goals with_reducible rfl)
                (try simp only [Act.put, List.setIfInBounds_toArray, List.set_cons_zero, List.set_cons_succ])
                refine wpAnyH_take (i := 18) (v := undef) (by rw [List.getElem?_toArray]; rfl) (by kernel_rfl) (by kernel_rfl) (by kernel_rfl) (by intro _ _ _ h; exact h) (Or.inr ⟨by rfl, rfl⟩) (by assumption) ?_
                (try simp only [Act.put, List.setIfInBounds_toArray, List.set_cons_zero, List.set_cons_succ])
                refine wpAnyH_take (i := 19) (v := undef) (by rw [List.getElem?_toArray]; rfl) (by kernel_rfl) (by kernel_rfl) (by kernel_rfl) (by intro _ _ _ h; exact h) (Or.inr ⟨by rfl, rfl⟩) (by assumption) ?_
                (try simp only [Act.put, List.setIfInBounds_toArray, List.set_cons_zero, List.set_cons_succ])
                refine wpAnyH_take (i := 20) (v := undef) (by rw [List.getElem?_toArray]; rfl) (by kernel_rfl) (by kernel_rfl) (by kernel_rfl) (by intro _ _ _ h; exact h) (Or.inr ⟨by rfl, rfl⟩) (by assumption) ?_
                (try simp only [Act.put, List.setIfInBounds_toArray, List.set_cons_zero, List.set_cons_succ])
                refine wpAnyH_take (i := 21) (v := undef) (by rw [List.getElem?_toArray]; rfl) (by kernel_rfl) (by kernel_rfl) (by kernel_rfl) (by intro _ _ _ h; exact h) (Or.inr ⟨by rfl, rfl⟩) (by assumption) ?_
                (try simp only [Act.put, List.setIfInBounds_toArray, List.set_cons_zero, List.set_cons_succ])
                refine wpAnyH_take (i := 22) (v := undef) (by rw [List.getElem?_toArray]; rfl) (by kernel_rfl) (by kernel_rfl) (by kernel_rfl) (by intro _ _ _ h; exact h) (Or.inr ⟨by rfl, rfl⟩) (by assumption) ?_
                (try simp only [Act.put, List.setIfInBounds_toArray, List.set_cons_zero, List.set_cons_succ])
                refine wpAnyH_take (i := 23) (v := undef) (by rw [List.getElem?_toArray]; rfl) (by kernel_rfl) (by kernel_rfl) (by kernel_rfl) (by intro _ _ _ h; exact h) (Or.inr ⟨by rfl, rfl⟩) (by assumption) ?_
                (try simp only [Act.put, List.setIfInBounds_toArray, List.set_cons_zero, List.set_cons_succ])
                refine wpAnyH_take (i := 24) (v := undef) (by rw [List.getElem?_toArray]; rfl) (by kernel_rfl) (by kernel_rfl) (by kernel_rfl) (by intro _ _ _ h; exact h) (Or.inr ⟨by rfl, rfl⟩) (by assumption) ?_
                (try simp only [Act.put, List.setIfInBounds_toArray, List.set_cons_zero, List.set_cons_succ])
                refine wpAnyH_take (i := 25) (v := undef) (by rw [List.getElem?_toArray]; rfl) (by kernel_rfl) (by kernel_rfl) (by kernel_rfl) (by intro _ _ _ h; exact h) (Or.inr ⟨by rfl, rfl⟩) (by assumption) ?_
                (try simp only [Act.put, List.setIfInBounds_toArray, List.set_cons_zero, List.set_cons_succ])
                refine wpAnyH_take (i := 26) (v := undef) (by rw [List.getElem?_toArray]; rfl) (by kernel_rfl) (by kernel_rfl) (by kernel_rfl) (by intro _ _ _ h; exact h) (Or.inr ⟨by rfl, rfl⟩) (by assumption) ?_
                (try simp only [Act.put, List.setIfInBounds_toArray, List.set_cons_zero, List.set_cons_succ])
                refine wpAnyH_take (i := 27) (v := undef) (by rw [List.getElem?_toArray]; rfl) (by kernel_rfl) (by kernel_rfl) (by kernel_rfl) (by intro _ _ _ h; exact h) (Or.inr ⟨by rfl, rfl⟩) (by assumption) ?_
                (try simp only [Act.put, List.setIfInBounds_toArray, List.set_cons_zero, List.set_cons_succ])
                refine wpAnyH_take (i := 28) (v := ?_) (by rw [List.getElem?_toArray]; rfl) (by kernel_rfl) (by kernel_rfl) (by kernel_rfl) (by intro _ _ _ h; exact h) (Or.inl ⟨by rfl, ?_⟩) (by assumption) ?_
                rotate_left
                · (intro w hSw; (try dsimp only at hSw); go_simp; all_goals with_reducible rfl)
                (try simp only [Act.put, List.setIfInBounds_toArray, List.set_cons_zero, List.set_cons_succ])
                refine wpAnyH_take (i := 29) (v := ?_) (by rw [List.getElem?_toArray]; rfl) (by kernel_rfl) (by kernel_rfl) (by kernel_rfl) (by intro _ _ _ h; exact h) (Or.inl ⟨by rfl, ?_⟩) (by assumption) ?_
                rotate_left
                · (intro w hSw; (try dsimp only at hSw); go_simp; all_goals with_reducible rfl)
                (try simp only [Act.put, List.setIfInBounds_toArray, List.set_cons_zero, List.set_cons_succ])
                refine wpAnyH_done (by kernel_rfl) ?_ _
                go_wp2_with fail
                go_roundw
                case rel => exact ⟨q + 1, by omega, by go_num, Below.drew hB⟩
                case measure => simp [intOf]; omega
            · have hqn : q = S.length := by omega
              subst hqn
              go_wp2_with fail
              go_ret
              exact ⟨rfl, BW.trans (hB.mono BW.size)⟩
      · have hki : decide ((k : Int) < 40) = false := by simp; omega
        as_aux_lemma =>
          obtain ⟨ta, tc, NT0⟩ := NS
          have OV := NT0.2.2.1
          have BW := NT0.2.2.2.2
          clear NT0 HTab HWF
          obtain ⟨av, cv, rfl⟩ := own_sliceN OV
          go_wp2_with fail
          go_loopw [20] (fun i wx => ∃ q : Nat, q ≤ S.length ∧ i = .int .i64 q ∧ Below wr.heap.size wr wx) (fun i _ => S.length - (intOf i).toNat)
          case atStart => exact ⟨0, Nat.zero_le _, rfl, Below.refl _ _⟩
          case round =>
            obtain ⟨q, hq, rfl, hB⟩ := hrel
            by_cases hql : q < S.length
            · have hli2 : (q : Int) < (S.length : Int) := by omega
              obtain ⟨bs, rfl, hbl, hce⟩ := own_cellI (own_belK' OV hB) (by omega)
              have d1 := hce q hql
              have hs1 := HSeen.out.2 _ (gI_in hql)
              obtain ⟨g1, g2, g3⟩ := seen_parts hs1.1 (show gI S q ≤ 100000999 by omega)
              have hwf1 := wf_small hs1.1 (show gI S q ≤ 1000000000 by omega)
              by_cases hpos : 0 < q
              · obtain ⟨qq, hqq⟩ : ∃ qq, q = qq + 1 := ⟨q - 1, by omega⟩
                have hge : decide (gI S q ≤ gI S qq) = false := by
                  have := gI_asc HSeen.out.1 (k := qq) (by omega)
                  rw [hqq]
                  exact decide_eq_false (by omega)
                have d0 := hce qq (by omega)
                have hpi : (0 : Int) < (q : Int) := by omega
                have hk1 : (q : Int) - 1 = (qq : Int) := by omega
                have hw1 : IntKind.i64.wrap (qq : Int) = (qq : Int) := Go.IntWalk.i64_in _ ⟨by omega, by omega⟩
                have hkl' : (qq : Int) < (S.length : Int) := by omega
                clear hqq hce hs1
                have CP := fun (w' : World) => implNonceParts_any (gI S q) w' hwf1
                have CN := fun (w' : World) => implNonceOf_any (npE (gI S q)) (npK (gI S q)) w'
                simp only [g1] at CP
                simp only [g2, g3] at CN
                clear g1 g2 g3 hwf1
                generalize npE (gI S q) = e1 at *
                generalize npK (gI S q) = k1 at *
                generalize gI S q = s1 at *
                generalize gI S qq = s0 at *
                go_wp2_with fail
                refine (CP _).mono ?_
                rintro e w' ⟨rfl, rfl⟩
                go_wp2_with fail
                refine (CN _).mono ?_
                rintro e w' ⟨rfl, rfl⟩
                go_upto_region 42 with fail
                refine wp_region_held_drew (S := (fun w' => w'.cell? ⟨bs, q, none⟩ = some (.int .i64 s1) ∧ w'.cell? ⟨bs, qq, none⟩ = some (.int .i64 s0))) (by kernel_rfl) ?_ (fun hHeld => ?_)
                · first | exact ⟨d1, d0⟩ | (simp (maxDischargeDepth := 6) [go_sem, *]; done)
                refine wpAnyH_take (i := 0) (v := ?_) (by rw [List.getElem?_toArray]; rfl) (by kernel_rfl) (by kernel_rfl) (by kernel_rfl) (by intro _ _ _ h; exact h) (Or.inl ⟨by rfl, ?_⟩) (by assumption) ?_
                rotate_left
                · (intro w hSw; (try dsimp only at hSw); go_simp; all_goals with_reducible rfl)
                (try simp only [Act.put, List.setIfInBounds_toArray, List.set_cons_zero, List.set_cons_succ])
                refine wpAnyH_take (i := 1) (v := ?_) (by rw [List.getElem?_toArray]; rfl) (by kernel_rfl) (by kernel_rfl) (by kernel_rfl) (by intro _ _ _ h; exact h) (Or.inl ⟨by rfl, ?_⟩) (by assumption) ?_
                rotate_left
                · (intro w hSw; (try dsimp only at hSw); go_simp; all_goals with_reducible rfl)
                (try simp only [Act.put, List.setIfInBounds_toArray, List.set_cons_zero, List.set_cons_succ])
                refine wpAnyH_take (i := 2) (v := ?_) (by rw [List.getElem?_toArray]; rfl) (by kernel_rfl) (by kernel_rfl) (by kernel_rfl) (by intro _ _ _ h; exact h) (Or.inl ⟨by rfl, ?_⟩) (by assumption) ?_
                rotate_left
                · (intro w hSw; (try dsimp only at hSw); go_simp; all_goals with_reducible rfl)
                (try simp only [Act.put, List.setIfInBounds_toArray, List.set_cons_zero, List.set_cons_succ])
                refine wpAnyH_take (i := 3) (v := ?_) (by rw [List.getElem?_toArray]; rfl) (by kernel_rfl) (by kernel_rfl) (by kernel_rfl) (by intro _ _ _ h; exact h) (Or.inl ⟨by rfl, ?_⟩) (by assumption) ?_
                rotate_left
                · (intro w hSw; (try dsimp only at hSw); go_simp; all_goals with_reducible rfl)
                (try simp only [Act.put, List.setIfInBounds_toArray, List.set_cons_zero, List.set_cons_succ])
                refine wpAnyH_take (i := 4) (v := ?_) (by rw [List.getElem?_toArray]; rfl) (by kernel_rfl) (by kernel_rfl) (by kernel_rfl) (by intro _ _ _ h; exact h) (Or.inl ⟨by rfl, ?_⟩) (by assumption) ?_
                rotate_left
                · (intro w hSw; (try dsimp only at hSw); go_simp; all_goals with_reducible rfl)
                (try simp only [Act.put, List.setIfInBounds_toArray, List.set_cons_zero, List.set_cons_succ])
                refine wpAnyH_take (i := 5) (v := ?_) (by rw [List.getElem?_toArray]; rfl) (by kernel_rfl) (by kernel_rfl) (by kernel_rfl) (by intro _ _ _ h; exact h) (Or.inl ⟨by rfl, ?_⟩) (by assumption) ?_
                rotate_left
                · (intro w hSw; (try dsimp only at hSw); go_simp; all_goals with_reducible rfl)
                (try simp only [Act.put, List.setIfInBounds_toArray, List.set_cons_zero, List.set_cons_succ])
                refine wpAnyH_take (i := 6) (v := ?_) (by rw [List.getElem?_toArray]; rfl) (by kernel_rfl) (by kernel_rfl) (by kernel_rfl) (by intro _ _ _ h; exact h) (Or.inl ⟨by rfl, ?_⟩) (by assumption) ?_
                rotate_left
                · (intro w hSw; (try dsimp only at hSw); go_simp; all_goals with_reducible rfl)
                (try simp only [Act.put, List.setIfInBounds_toArray, List.set_cons_zero, List.set_cons_succ])
                refine wpAnyH_take (i := 7) (v := ?_) (by rw [List.getElem?_toArray]; rfl) (by kernel_rfl) (by kernel_rfl) (by kernel_rfl) (by intro _ _ _ h; exact h) (Or.inl ⟨by rfl, ?_⟩) (by assumption) ?_
                rotate_left
                · (intro w hSw; (try dsimp only at hSw); go_simp; all_goals with_reducible rfl)
                (try simp only [Act.put, List.setIfInBounds_toArray, List.set_cons_zero, List.set_cons_succ])
                refine wpAnyH_take (i := 8) (v := ?_) (by rw [List.getElem?_toArray]; rfl) (by kernel_rfl) (by kernel_rfl) (by kernel_rfl) (by intro _ _ _ h; exact h) (Or.inl ⟨by rfl, ?_⟩) (by assumption) ?_
                rotate_left
                · (intro w hSw; (try dsimp only at hSw); go_simp; all_goals with_reducible rfl)
                (try simp only [Act.put, List.setIfInBounds_toArray, List.set_cons_zero, List.set_cons_succ])
                refine wpAnyH_take (i := 9) (v := ?_) (by rw [List.getElem?_toArray]; rfl) (by kernel_rfl) (by kernel_rfl) (by kernel_rfl) (by intro _ _ _ h; exact h) (Or.inl ⟨by rfl, ?_⟩) (by assumption) ?_
                rotate_left
                · (intro w hSw; (try dsimp only at hSw); go_simp; all_goals with_reducible rfl)
                (try simp only [Act.put, List.setIfInBounds_toArray, List.set_cons_zero, List.set_cons_succ])
                refine wpAnyH_take (i := 10) (v := ?_) (by rw [List.getElem?_toArray]; rfl) (by kernel_rfl) (by kernel_rfl) (by kernel_rfl) (by intro _ _ _ h; exact h) (Or.inl ⟨by rfl, ?_⟩) (by assumption) ?_
                rotate_left
                · (intro w hSw; (try dsimp only at hSw); go_simp; all_goals with_reducible rfl)
                (try simp only [Act.put, List.setIfInBounds_toArray, List.set_cons_zero, List.set_cons_succ])
                refine wpAnyH_take (i := 11) (v := ?_) (by rw [List.getElem?_toArray]; rfl) (by kernel_rfl) (by kernel_rfl) (by kernel_rfl) (by intro _ _ _ h; exact h) (Or.inl ⟨by rfl, ?_⟩) (by assumption) ?_
                rotate_left
                · (intro w hSw; (try dsimp only at hSw); go_simp; all_goals with_reducible rfl)
                (try simp only [Act.put, List.setIfInBounds_toArray, List.set_cons_zero, List.set_cons_succ])
                refine wpAnyH_take (i := 12) (v := ?_) (by rw [List.getElem?_toArray]; rfl) (by kernel_rfl) (by kernel_rfl) (by kernel_rfl) (by intro _ _ _ h; exact h) (Or.inl ⟨by rfl, ?_⟩) (by assumption) ?_
                rotate_left
                · (intro w hSw; (try dsimp only at hSw); go_simp; all_goals with_reducible rfl)
                (try simp only [Act.put, List.setIfInBounds_toArray, List.set_cons_zero, List.set_cons_succ])
                refine wpAnyH_take (i := 13) (v := ?_) (by rw [List.getElem?_toArray]; rfl) (by kernel_rfl) (by kernel_rfl) (by kernel_rfl) (by intro _ _ _ h; exact h) (Or.inl ⟨by rfl, ?_⟩) (by assumption) ?_
                rotate_left
                · (intro w hSw; (try dsimp only at hSw); go_simp; all_goals with_reducible rfl)
                (try simp only [Act.put, List.setIfInBounds_toArray, List.set_cons_zero, List.set_cons_succ])
                refine wpAnyH_take (i := 14) (v := ?_) (by rw [List.getElem?_toArray]; rfl) (by kernel_rfl) (by kernel_rfl) (by kernel_rfl) (by intro _ _ _ h; exact h) (Or.inl ⟨by rfl, ?_⟩) (by assumption) ?_
                rotate_left
                · (intro w hSw; (try dsimp only at hSw); go_simp; all_goals with_reducible rfl)
                (try simp only [Act.put, List.setIfInBounds_toArray, List.set_cons_zero, List.set_cons_succ])
                refine wpAnyH_take (i := 15) (v := ?_) (by rw [List.getElem?_toArray]; rfl) (by kernel_rfl) (by kernel_rfl) (by kernel_rfl) (by intro _ _ _ h; exact h) (Or.inl ⟨by rfl, ?_⟩) (by assumption) ?_
                rotate_left
                · (intro w hSw; (try dsimp only at hSw); go_simp; all_goals with_reducible rfl)
                (try simp only [Act.put, List.setIfInBounds_toArray, List.set_cons_zero, List.set_cons_succ])
                refine wpAnyH_take (i := 16) (v := ?_) (by rw [List.getElem?_toArray]; rfl) (by kernel_rfl) (by kernel_rfl) (by kernel_rfl) (by intro _ _ _ h; exact h) (Or.inl ⟨by rfl, ?_⟩) (by assumption) ?_
                rotate_left
                · (intro w hSw; (try dsimp only at hSw); go_simp; all_goals with_reducible rfl)
                (try simp only [Act.put, List.setIfInBounds_toArray, List.set_cons_zero, List.set_cons_succ])
                refine wpAnyH_take (i := 17) (v := ?_) (by rw [List.getElem?_toArray]; rfl) (by kernel_rfl) (by kernel_rfl) (by kernel_rfl) (by intro _ _ _ h; exact h) (Or.inl ⟨by rfl, ?_⟩) (by assumption) ?_
                rotate_left
                · (intro w hSw; (try dsimp only at hSw); go_simp; all_goals with_reducible rfl)
                (try simp only [Act.put, List.setIfInBounds_toArray, List.set_cons_zero, List.set_cons_succ])
                refine wpAnyH_take (i := 18) (v := ?_) (by rw [List.getElem?_toArray]; rfl) (by kernel_rfl) (by kernel_rfl) (by kernel_rfl) (by intro _ _ _ h; exact h) (Or.inl ⟨by rfl, ?_⟩) (by assumption) ?_
                rotate_left
                · (intro w hSw; (try dsimp only at hSw); go_simp; all_goals with_reducible rfl)
                (try simp only [Act.put, List.setIfInBounds_toArray, List.set_cons_zero, List.set_cons_succ])
                refine wpAnyH_take (i := 19) (v := ?_) (by rw [List.getElem?_toArray]; rfl) (by kernel_rfl) (by kernel_rfl) (by kernel_rfl) (by intro _ _ _ h; exact h) (Or.inl ⟨by rfl, ?_⟩) (by assumption) ?_
                rotate_left
                · (intro w hSw; (try dsimp only at hSw); go_simp; all_goals with_reducible rfl)
                (try simp only [Act.put, List.setIfInBounds_toArray, List.set_cons_zero, List.set_cons_succ])
                refine wpAnyH_take (i := 20) (v := ?_) (by rw [List.getElem?_toArray]; rfl) (by kernel_rfl) (by kernel_rfl) (by kernel_rfl) (by intro _ _ _ h; exact h) (Or.inl ⟨by rfl, ?_⟩) (by assumption) ?_
                rotate_left
                · (intro w hSw; (try dsimp only at hSw); go_simp; all_goals with_reducible rfl)
                (try simp only [Act.put, List.setIfInBounds_toArray, List.set_cons_zero, List.set_cons_succ])
                refine wpAnyH_take (i := 21) (v := ?_) (by rw [List.getElem?_toArray]; rfl) (by kernel_rfl) (by kernel_rfl) (by kernel_rfl) (by intro _ _ _ h; exact h) (Or.inl ⟨by rfl, ?_⟩) (by assumption) ?_
                rotate_left
                · (intro w hSw; (try dsimp only at hSw); go_simp; all_goals with_reducible rfl)
                (try simp only [Act.put, List.setIfInBounds_toArray, List.set_cons_zero, List.set_cons_succ])
                refine wpAnyH_take (i := 22) (v := ?_) (by rw [List.getElem?_toArray]; rfl) (by kernel_rfl) (by kernel_rfl) (by kernel_rfl) (by intro _ _ _ h; exact h) (Or.inl ⟨by rfl, ?_⟩) (by assumption) ?_
                rotate_left
                · (intro w hSw; (try dsimp only at hSw); go_simp; all_goals with_reducible rfl)
                (try simp only [Act.put, List.setIfInBounds_toArray, List.set_cons_zero, List.set_cons_succ])
                refine wpAnyH_take (i := 23) (v := ?_) (by rw [List.getElem?_toArray]; rfl) (by kernel_rfl) (by kernel_rfl) (by kernel_rfl) (by intro _ _ _ h; exact h) (Or.inl ⟨by rfl, ?_⟩) (by assumption) ?_
                rotate_left
                · (intro w hSw; (try dsimp only at hSw); go_simp; all_goals with_reducible rfl)
                (try simp only [Act.put, List.setIfInBounds_toArray, List.set_cons_zero, List.set_cons_succ])
                refine wpAnyH_take (i := 24) (v := ?_) (by rw [List.getElem?_toArray]; rfl) (by kernel_rfl) (by kernel_rfl) (by kernel_rfl) (by intro _ _ _ h; exact h) (Or.inl ⟨by rfl, ?_⟩) (by assumption) ?_
                rotate_left
                · (intro w hSw; (try dsimp only at hSw); go_simp; all_goals with_reducible rfl)
                (try simp only [Act.put, List.setIfInBounds_toArray, List.set_cons_zero, List.set_cons_succ])
                refine wpAnyH_take (i := 25) (v := ?_) (by rw [List.getElem?_toArray]; rfl) (by kernel_rfl) (by kernel_rfl) (by kernel_rfl) (by intro _ _ _ h; exact h) (Or.inl ⟨by rfl, ?_⟩) (by assumption) ?_
                rotate_left
                · (intro w hSw; (try dsimp only at hSw); go_simp; all_goals with_reducible rfl)
                (try simp only [Act.put, List.setIfInBounds_toArray, List.set_cons_zero, List.set_cons_succ])
                refine wpAnyH_take (i := 26) (v := ?_) (by rw [List.getElem?_toArray]; rfl) (by kernel_rfl) (by kernel_rfl) (by kernel_rfl) (by intro _ _ _ h; exact h) (Or.inl ⟨by rfl, ?_⟩) (by assumption) ?_
                rotate_left
                · (intro w hSw; (try dsimp only at hSw); go_simp; all_goals with_reducible rfl)
                (try simp only [Act.put, List.setIfInBounds_toArray, List.set_cons_zero, List.set_cons_succ])
                refine wpAnyH_take (i := 27) (v := ?_) (by rw [List.getElem?_toArray]; rfl) (by kernel_rfl) (by kernel_rfl) (by kernel_rfl) (by intro _ _ _ h; exact h) (Or.inl ⟨by rfl, ?_⟩) (by assumption) ?_
                rotate_left
                · (intro w hSw; (try dsimp only at hSw); go_simp; all_goals with_reducible rfl)
                (try simp only [Act.put, List.setIfInBounds_toArray, List.set_cons_zero, List.set_cons_succ])
                (try simp only [hge])
                refine wpAnyH_take (i := 28) (v := ?_) (by rw [List.getElem?_toArray]; rfl) (by kernel_rfl) (by kernel_rfl) (by kernel_rfl) (by intro _ _ _ h; exact h) (Or.inl ⟨by rfl, ?_⟩) (by assumption) ?_
                rotate_left
                · (intro w hSw; (try dsimp only at hSw); go_simp; all_goals with_reducible rfl)
                (try simp only [Act.put, List.setIfInBounds_toArray, List.set_cons_zero, List.set_cons_succ])
                refine wpAnyH_take (i := 29) (v := ?_) (by rw [List.getElem?_toArray]; rfl) (by kernel_rfl) (by kernel_rfl) (by kernel_rfl) (by intro _ _ _ h; exact h) (Or.inl ⟨by rfl, ?_⟩) (by assumption) ?_
                rotate_left
                · (intro w hSw; (try dsimp only at hSw); go_simp; all_goals with_reducible rfl)
                (try simp only [Act.put, List.setIfInBounds_toArray, List.set_cons_zero, List.set_cons_succ])
                refine wpAnyH_done (by kernel_rfl) ?_ _
                go_wp2_with fail
                go_roundw
                case rel => exact ⟨q + 1, by omega, by go_num, Below.drew hB⟩
                case measure => simp [intOf]; omega
              · have hpi : decide ((0 : Int) < (q : Int)) = false := by simp; omega
                clear hce hs1
                have CP := fun (w' : World) => implNonceParts_any (gI S q) w' hwf1
                have CN := fun (w' : World) => implNonceOf_any (npE (gI S q)) (npK (gI S q)) w'
                simp only [g1] at CP
                simp only [g2, g3] at CN
                clear g1 g2 g3 hwf1
                generalize npE (gI S q) = e1 at *
                generalize npK (gI S q) = k1 at *
                generalize gI S q = s1 at *
                go_wp2_with fail
                refine (CP _).mono ?_
                rintro e w' ⟨rfl, rfl⟩
                go_wp2_with fail
                refine (CN _).mono ?_
                rintro e w' ⟨rfl, rfl⟩
                go_upto_region 42 with fail
                refine wp_region_held_drew (S := (fun w' => w'.cell? ⟨bs, q, none⟩ = some (.int .i64 s1))) (by kernel_rfl) ?_ (fun hHeld => ?_)
                · first | exact d1 | (simp (maxDischargeDepth := 6) [go_sem, *]; done)
                refine wpAnyH_take (i := 0) (v := ?_) (by rw [List.getElem?_toArray]; rfl) (by kernel_rfl) (by kernel_rfl) (by kernel_rfl) (by intro _ _ _ h; exact h) (Or.inl ⟨by rfl, ?_⟩) (by assumption) ?_
                rotate_left
                · (intro w hSw; (try dsimp only at hSw); go_simp; all_goals with_reducible rfl)
                (try simp only [Act.put, List.setIfInBounds_toArray, List.set_cons_zero, List.set_cons_succ])
                refine wpAnyH_take (i := 1) (v := ?_) (by rw [List.getElem?_toArray]; rfl) (by kernel_rfl) (by kernel_rfl) (by kernel_rfl) (by intro _ _ _ h; exact h) (Or.inl ⟨by rfl, ?_⟩) (by assumption) ?_
                rotate_left
                · (intro w hSw; (try dsimp only at hSw); go_simp; all_goals with_reducible rfl)
                (try simp only [Act.put, List.setIfInBounds_toArray, List.set_cons_zero, List.set_cons_succ])
                refine wpAnyH_take (i := 2) (v := ?_) (by rw [List.getElem?_toArray]; rfl) (by kernel_rfl) (by kernel_rfl) (by kernel_rfl) (by intro _ _ _ h; exact h) (Or.inl ⟨by rfl, ?_⟩) (by assumption) ?_
                rotate_left
                · (intro w hSw; (try dsimp only at hSw); go_simp; all_goals with_reducible rfl)
                (try simp only [Act.put, List.setIfInBounds_toArray, List.set_cons_zero, List.set_cons_succ])
                refine wpAnyH_take (i := 3) (v := ?_) (by rw [List.getElem?_toArray]; rfl) (by kernel_rfl) (by kernel_rfl) (by kernel_rfl) (by intro _ _ _ h; exact h) (Or.inl ⟨by rfl, ?_⟩) (by assumption) ?_
                rotate_left
                · (intro w hSw; (try dsimp only at hSw); go_simp; all_goals with_reducible rfl)
                (try simp only [Act.put, List.setIfInBounds_toArray, List.set_cons_zero, List.set_cons_succ])
                refine wpAnyH_take (i := 4) (v := ?_) (by rw [List.getElem?_toArray]; rfl) (by kernel_rfl) (by kernel_rfl) (by kernel_rfl) (by intro _ _ _ h; exact h) (Or.inl ⟨by rfl, ?_⟩) (by assumption) ?_
                rotate_left
                · (intro w hSw; (try dsimp only at hSw); go_simp; all_goals with_reducible rfl)
                (try simp only [Act.put, List.setIfInBounds_toArray, List.set_cons_zero, List.set_cons_succ])
                refine wpAnyH_take (i := 5) (v := ?_) (by rw [List.getElem?_toArray]; rfl) (by kernel_rfl) (by kernel_rfl) (by kernel_rfl) (by intro _ _ _ h; exact h) (Or.inl ⟨by rfl, ?_⟩) (by assumption) ?_
                rotate_left
                · (intro w hSw; (try dsimp only at hSw); go_simp; all_goals with_reducible rfl)
                (try simp only [Act.put, List.setIfInBounds_toArray, List.set_cons_zero, List.set_cons_succ])
                refine wpAnyH_take (i := 6) (v := ?_) (by rw [List.getElem?_toArray]; rfl) (by kernel_rfl) (by kernel_rfl) (by kernel_rfl) (by intro _ _ _ h; exact h) (Or.inl ⟨by rfl, ?_⟩) (by assumption) ?_
                rotate_left
                · (intro w hSw; (try dsimp only at hSw); go_simp; all_goals with_reducible rfl)
                (try simp only [Act.put, List.setIfInBounds_toArray, List.set_cons_zero, List.set_cons_succ])
                refine wpAnyH_take (i := 7) (v := ?_) (by rw [List.getElem?_toArray]; rfl) (by kernel_rfl) (by kernel_rfl) (by kernel_rfl) (by intro _ _ _ h; exact h) (Or.inl ⟨by rfl, ?_⟩) (by assumption) ?_
                rotate_left
                · (intro w hSw; (try dsimp only at hSw); go_simp; all_goals with_reducible rfl)
                (try simp only [Act.put, List.setIfInBounds_toArray, List.set_cons_zero, List.set_cons_succ])
                refine wpAnyH_take (i := 8) (v := ?_) (by rw [List.getElem?_toArray]; rfl) (by kernel_rfl) (by kernel_rfl) (by kernel_rfl) (by intro _ _ _ h; exact h) (Or.inl ⟨by rfl, ?_⟩) (by assumption) ?_
                rotate_left
                · (intro w hSw; (try dsimp only at hSw); go_simp; all_goals with_reducible rfl)
                (try simp only [Act.put, List.setIfInBounds_toArray, List.set_cons_zero, List.set_cons_succ])
                refine wpAnyH_take (i := 9) (v := ?_) (by rw [List.getElem?_toArray]; rfl) (by kernel_rfl) (by kernel_rfl) (by kernel_rfl) (by intro _ _ _ h; exact h) (Or.inl ⟨by rfl, ?_⟩) (by assumption) ?_
                rotate_left
                · (intro w hSw; (try dsimp only at hSw); go_simp; all_goals with_reducible rfl)
                (try simp only [Act.put, List.setIfInBounds_toArray, List.set_cons_zero, List.set_cons_succ])
                refine wpAnyH_take (i := 10) (v := ?_) (by rw [List.getElem?_toArray]; rfl) (by kernel_rfl) (by kernel_rfl) (by kernel_rfl) (by intro _ _ _ h; exact h) (Or.inl ⟨by rfl, ?_⟩) (by assumption) ?_
                rotate_left
                · (intro w hSw; (try dsimp only at hSw); go_simp; all_goals with_reducible rfl)
                (try simp only [Act.put, List.setIfInBounds_toArray, List.set_cons_zero, List.set_cons_succ])
                refine wpAnyH_take (i := 11) (v := ?_) (by rw [List.getElem?_toArray]; rfl) (by kernel_rfl) (by kernel_rfl) (by kernel_rfl) (by intro _ _ _ h; exact h) (Or.inl ⟨by rfl, ?_⟩) (by assumption) ?_
                rotate_left
                · (intro w hSw; (try dsimp only at hSw); go_simp; all_goals with_reducible rfl)
                (try simp only [Act.put, List.setIfInBounds_toArray, List.set_cons_zero, List.set_cons_succ])
                refine wpAnyH_take (i := 12) (v := ?_) (by rw [List.getElem?_toArray]; rfl) (by kernel_rfl) (by kernel_rfl) (by kernel_rfl) (by intro _ _ _ h; exact h) (Or.inl ⟨by rfl, ?_⟩) (by assumption) ?_
                rotate_left
                · (intro w hSw; (try dsimp only at hSw); go_simp; all_goals with_reducible rfl)
                (try simp only [Act.put, List.setIfInBounds_toArray, List.set_cons_zero, List.set_cons_succ])
                refine wpAnyH_take (i := 13) (v := ?_) (by rw [List.getElem?_toArray]; rfl) (by kernel_rfl) (by kernel_rfl) (by kernel_rfl) (by intro _ _ _ h; exact h) (Or.inl ⟨by rfl, ?_⟩) (by assumption) ?_
                rotate_left
                · (intro w hSw; (try dsimp only at hSw); go_simp; all_goals with_reducible rfl)
                (try simp only [Act.put, List.setIfInBounds_toArray, List.set_cons_zero, List.set_cons_succ])
                refine wpAnyH_take (i := 14) (v := ?_) (by rw [List.getElem?_toArray]; rfl) (by kernel_rfl) (by kernel_rfl) (by kernel_rfl) (by intro _ _ _ h; exact h) (Or.inl ⟨by rfl, ?_⟩) (by assumption) ?_
                rotate_left
                · (intro w hSw; (try dsimp only at hSw); go_simp; all_goals with_reducible rfl)
                (try simp only [Act.put, List.setIfInBounds_toArray, List.set_cons_zero, List.set_cons_succ])
                refine wpAnyH_take (i := 15) (v := ?_) (by rw [List.getElem?_toArray]; rfl) (by kernel_rfl) (by kernel_rfl) (by kernel_rfl) (by intro _ _ _ h; exact h) (Or.inl ⟨by rfl, ?_⟩) (by assumption) ?_
                rotate_left
                · (intro w hSw; (try dsimp only at hSw); go_simp; all_goals with_reducible rfl)
                (try simp only [Act.put, List.setIfInBounds_toArray, List.set_cons_zero, List.set_cons_succ])
                refine wpAnyH_take (i := 16) (v := ?_) (by rw [List.getElem?_toArray]; rfl) (by kernel_rfl) (by kernel_rfl) (by kernel_rfl) (by intro _ _ _ h; exact h) (Or.inl ⟨by rfl, ?_⟩) (by assumption) ?_
                rotate_left
                · (intro w hSw; (try dsimp only at hSw); go_simp; all_goals with_reducible rfl)
                (try simp only [Act.put, List.setIfInBounds_toArray, List.set_cons_zero, List.set_cons_succ])
                refine wpAnyH_take (i := 17) (v := ?_) (by rw [List.getElem?_toArray]; rfl) (by kernel_rfl) (by kernel_rfl) (by kernel_rfl) (by intro _ _ _ h; exact h) (Or.inl ⟨by rfl, ?_⟩) (by assumption) ?_
                rotate_left
                · (intro w hSw; (try dsimp only at hSw); go_simp; all_goals with_reducible rfl)
                (try simp only [Act.put, List.setIfInBounds_toArray, List.set_cons_zero, List.set_cons_succ])
                refine wpAnyH_take (i := 18) (v := undef) (by rw [List.getElem?_toArray]; rfl) (by kernel_rfl) (by kernel_rfl) (by kernel_rfl) (by intro _ _ _ h; exact h) (Or.inr ⟨by rfl, rfl⟩) (by assumption) ?_
                (try simp only [Act.put, List.setIfInBounds_toArray, List.set_cons_zero, List.set_cons_succ])
                refine wpAnyH_take (i := 19) (v := undef) (by rw [List.getElem?_toArray]; rfl) (by kernel_rfl) (by kernel_rfl) (by kernel_rfl) (by intro _ _ _ h; exact h) (Or.inr ⟨by rfl, rfl⟩) (by assumption) ?_
                (try simp only [Act.put, List.setIfInBounds_toArray, List.set_cons_zero, List.set_cons_succ])
                refine wpAnyH_take (i := 20) (v := undef) (by rw [List.getElem?_toArray]; rfl) (by kernel_rfl) (by kernel_rfl) (by kernel_rfl) (by intro _ _ _ h; exact h) (Or.inr ⟨by rfl, rfl⟩) (by assumption) ?_
                (try simp only [Act.put, List.setIfInBounds_toArray, List.set_cons_zero, List.set_cons_succ])
                refine wpAnyH_take (i := 21) (v := undef) (by rw [List.getElem?_toArray]; rfl) (by kernel_rfl) (by kernel_rfl) (by kernel_rfl) (by intro _ _ _ h; exact h) (Or.inr ⟨by rfl, rfl⟩) (by assumption) ?_
                (try simp only [Act.put, List.setIfInBounds_toArray, List.set_cons_zero, List.set_cons_succ])
                refine wpAnyH_take (i := 22) (v := undef) (by rw [List.getElem?_toArray]; rfl) (by kernel_rfl) (by kernel_rfl) (by kernel_rfl) (by intro _ _ _ h; exact h) (Or.inr ⟨by rfl, rfl⟩) (by assumption) ?_
                (try simp only [Act.put, List.setIfInBounds_toArray, List.set_cons_zero, List.set_cons_succ])
                refine wpAnyH_take (i := 23) (v := undef) (by rw [List.getElem?_toArray]; rfl) (by kernel_rfl) (by kernel_rfl) (by kernel_rfl) (by intro _ _ _ h; exact h) (Or.inr ⟨by rfl, rfl⟩) (by assumption) ?_
                (try simp only [Act.put, List.setIfInBounds_toArray, List.set_cons_zero, List.set_cons_succ])
                refine wpAnyH_take (i := 24) (v := undef) (by rw [List.getElem?_toArray]; rfl) (by kernel_rfl) (by kernel_rfl) (by kernel_rfl) (by intro _ _ _ h; exact h) (Or.inr ⟨by rfl, rfl⟩) (by assumption) ?_
                (try simp only [Act.put, List.setIfInBounds_toArray, List.set_cons_zero, List.set_cons_succ])
                refine wpAnyH_take (i := 25) (v := undef) (by rw [List.getElem?_toArray]; rfl) (by kernel_rfl) (by kernel_rfl) (by kernel_rfl) (by intro _ _ _ h; exact h) (Or.inr ⟨by rfl, rfl⟩) (by assumption) ?_
                (try simp only [Act.put, List.setIfInBounds_toArray, List.set_cons_zero, List.set_cons_succ])
                refine wpAnyH_take (i := 26) (v := undef) (by rw [List.getElem?_toArray]; rfl) (by kernel_rfl) (by kernel_rfl) (by kernel_rfl) (by intro _ _ _ h; exact h) (Or.inr ⟨by rfl, rfl⟩) (by assumption) ?_
                (try simp only [Act.put, List.setIfInBounds_toArray, List.set_cons_zero, List.set_cons_succ])
                refine wpAnyH_take (i := 27) (v := undef) (by rw [List.getElem?_toArray]; rfl) (by kernel_rfl) (by kernel_rfl) (by kernel_rfl) (by intro _ _ _ h; exact h) (Or.inr ⟨by rfl, rfl⟩) (by assumption) ?_
                (try simp only [Act.put, List.setIfInBounds_toArray, List.set_cons_zero, List.set_cons_succ])
                refine wpAnyH_take (i := 28) (v := ?_) (by rw [List.getElem?_toArray]; rfl) (by kernel_rfl) (by kernel_rfl) (by kernel_rfl) (by intro _ _ _ h; exact h) (Or.inl ⟨by rfl, ?_⟩) (by assumption) ?_
                rotate_left
                · (intro w hSw; (try dsimp only at hSw); go_simp; all_goals with_reducible rfl)
                (try simp only [Act.put, List.setIfInBounds_toArray, List.set_cons_zero, List.set_cons_succ])
                refine wpAnyH_take (i := 29) (v := ?_) (by rw [List.getElem?_toArray]; rfl) (by kernel_rfl) (by kernel_rfl) (by kernel_rfl) (by intro _ _ _ h; exact h) (Or.inl ⟨by rfl, ?_⟩) (by assumption) ?_
                rotate_left
                · (intro w hSw; (try dsimp only at hSw); go_simp; all_goals with_reducible rfl)
                (try simp only [Act.put, List.setIfInBounds_toArray, List.set_cons_zero, List.set_cons_succ])
                refine wpAnyH_done (by kernel_rfl) ?_ _
                go_wp2_with fail
                go_roundw
                case rel => exact ⟨q + 1, by omega, by go_num, Below.drew hB⟩
                case measure => simp [intOf]; omega
            · have hqn : q = S.length := by omega
              subst hqn
              go_wp2_with fail
              go_ret
              exact ⟨rfl, BW.trans (hB.mono BW.size)⟩
end Go.Proofs.Ytlaladalnbdhpaa
