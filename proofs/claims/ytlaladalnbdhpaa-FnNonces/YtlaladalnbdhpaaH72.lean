/- What Again comes to; the contract of impl.Again. -/
import Derived.Test.YtlaladalnbdhpaaH71
import Derived.Test.YtlaladalnbdhpaaF8
import Derived.Test.YtlaladalnbdhpaaB7
import Derived.Deep.RegionHeld3
import Derived.Deep.DeepCutAuto
import Derived.WalkKit
import Derived.WalkSpells
import Derived.WalkLawsBesides
import Derived.Deep.RegionHeld
namespace Go.Proofs.Ytlaladalnbdhpaa
open Go.RowKit
set_option linter.unusedVariables false
/- What Again comes to, place by place of those that go: the used ones, those that came, those that went. -/
def agN (ep x : Int) (a : KT) (u : Int) (cl ll : List KT) : Int × List KT × List KT := if a.2.2.2 = 4 ∨ u = 1000 then (u, cl, ll ++ [a]) else (u + 1, cl ++ [kT (ep * 1000 + u) a.2.1 x (a.2.2.2 + 1)], ll)
def ag (ep x us : Int) (L : List KT) : Nat → Int × List KT × List KT
  | 0 => (us, [], [])
  | k + 1 => agN ep x (rowL L k) (ag ep x us L k).1 (ag ep x us L k).2.1 (ag ep x us L k).2.2
theorem ag_ok {ep x us : Int} {L : List KT} (hu : us ≤ 1000) : ∀ k, us ≤ (ag ep x us L k).1 ∧ (ag ep x us L k).1 ≤ 1000 ∧ (ag ep x us L k).2.1.length + (ag ep x us L k).2.2.length = k ∧ (∀ b ∈ (ag ep x us L k).2.1, b.1 < ep * 1000 + (ag ep x us L k).1 ∧ b.2.2.1 = x) ∧ ∀ b ∈ (ag ep x us L k).2.2, ∃ j, j < k ∧ b = rowL L j
  | 0 => ⟨Int.le_refl _, hu, rfl, fun b h => (by simp [ag] at h), fun b h => (by simp [ag] at h)⟩
  | k + 1 => by
    obtain ⟨h1, h2, h3, h4, h5⟩ := ag_ok (ep := ep) (x := x) (L := L) hu k
    rw [ag, agN]
    generalize ag ep x us L k = s at *
    obtain ⟨u, cl, ll⟩ := s
    simp only at h1 h2 h3 h4 h5 ⊢
    by_cases hc : (rowL L k).2.2.2 = 4 ∨ u = 1000
    · rw [if_pos hc]
      refine ⟨h1, h2, by simp; omega, h4, fun b hb => ?_⟩
      rcases List.mem_append.1 hb with q | q
      · obtain ⟨j, hj, e⟩ := h5 b q; exact ⟨j, by omega, e⟩
      · simp at q; exact ⟨k, by omega, q⟩
    · rw [if_neg hc]
      have hu' : u ≠ 1000 := fun e => hc (.inr e)
      refine ⟨by simp; omega, by simp; omega, by simp; omega, fun b hb => ?_, fun b hb => ?_⟩
      · rcases List.mem_append.1 hb with q | q
        · have := h4 b q; exact ⟨by simp; omega, this.2⟩
        · simp at q; subst q; exact ⟨by show ep * 1000 + u < ep * 1000 + (u + 1); omega, rfl⟩
      · obtain ⟨j, hj, e⟩ := h5 b hb; exact ⟨j, by omega, e⟩
theorem head_in {L : List KT} (h : 0 < L.length) : rowL L 0 ∈ L := by
  cases L with
  | nil => simp at h
  | cons a t => simp [rowL]
theorem gon_late {x y : Int} {L : List KT} {j : Nat} (hj : j < (gon x y L).length) : y < x - (rowL (gon x y L) j).2.2.1 := by
  have hm : rowL (gon x y L) j ∈ gon x y L := by unfold rowL; rw [List.getD_eq_getElem?_getD, List.getElem?_eq_getElem hj]; exact List.getElem_mem hj
  have := (List.mem_filter.1 hm).2
  exact of_decide_eq_true this
theorem cell2K {w : World} {base n c : Nat} {a : Option Addr} {G : Nat → KT} (h : w.ownsRow base 34 4 (.slice a n c) n (krow G n)) (hn : 0 < n) {g : Nat} (hg : (Value.slice a n c).ownBlock = some g) : w.cell? ⟨g, 2, none⟩ = some (.int .i64 (G 0).2.2.1) := by
  obtain ⟨a2, c2, e2, _, _, S⟩ := ownF_src h
  injection e2 with e2 e3 e4
  subst e2 e4
  rcases S with S | ⟨b, off, ha, hc⟩
  · omega
  · have h1 := own_at h ha
    rw [hg] at h1
    injection h1 with h1
    subst h1
    have h2 : off = 0 := by
      rcases h.2 with ⟨he, _⟩ | ⟨g', cap, cur, he, _⟩
      · simp at he; rw [he.1] at ha; cases ha
      · simp at he; rw [he.1] at ha; simp at ha; exact ha.2.symm
    subst h2
    have q := hc.2 2 (by omega)
    obtain ⟨x0, x1, x2, x3, hG⟩ := tupAsk G 0
    have v := (MFAsk_vals hG).2.2.1
    simp only [Nat.zero_mul, Nat.zero_add] at v q
    rw [q, v, hG]
theorem apart {w : World} {b1 b2 c c' : Nat} {a a' : Option Addr} {L1 L2 : List KT} (h1 : w.ownsRow b1 34 4 (.slice a L1.length c) L1.length (krow (rowL L1) L1.length)) (h2 : w.ownsRow b2 34 4 (.slice a' L2.length c') L2.length (krow (rowL L2) L2.length)) (e1 : L1.length = 0 → a = none) (e2 : L2.length = 0 → a' = none) (hne : 0 < L1.length → 0 < L2.length → (rowL L1 0).2.2.1 ≠ (rowL L2 0).2.2.1) : ∀ g, (Value.slice a L1.length c).ownBlock = some g → (Value.slice a' L2.length c').ownBlock ≠ some g := by
  intro g g1 g2
  by_cases q1 : 0 < L1.length
  · by_cases q2 : 0 < L2.length
    · have r1 := cell2K h1 q1 g1
      rw [cell2K h2 q2 g2] at r1
      injection r1 with r1
      injection r1 with _ r1
      exact hne q1 q2 r1.symm
    · have := e2 (by omega)
      subst this
      simp [Value.ownBlock] at g2
  · have := e1 (by omega)
    subst this
    simp [Value.ownBlock] at g1
def trB4 (L : List KT) : Prop := ∀ K ∈ L, 1 ≤ K.2.2.2 ∧ K.2.2.2 ≤ 4
theorem el_try {ep us : Int} {M : Nat → KT} {n : Nat} (h : tabB ep us M n = true) : trB4 (lst M n) := by
  intro K hK
  simp only [lst, List.mem_map, List.mem_range] at hK
  obtain ⟨j, hj, rfl⟩ := hK
  have h1 := tOk_el (tabB_tOk h) hj
  simp only [elB, akB, trB, Bool.and_eq_true, decide_eq_true_eq] at h1
  exact h1.2.2
theorem el_below {ep us : Int} {M : Nat → KT} {n : Nat} (h : tabB ep us M n = true) : ∀ b ∈ lst M n, b.1 < ep * 1000 + us := by
  intro K hK
  simp only [lst, List.mem_map, List.mem_range] at hK
  obtain ⟨j, hj, rfl⟩ := hK
  have h1 := tOk_el (tabB_tOk h) hj
  simp only [elB, Bool.and_eq_true, decide_eq_true_eq] at h1
  obtain ⟨⟨⟨⟨h2, h3⟩, h4⟩, h5⟩, h6⟩ := h1
  have := np_join h2
  omega
/- The state of the program's loop. -/
def AgInv (ep us x y : Int) (M : Nat → KT) (n : Nat) (w : World) (bx bm j5 : Nat) (a1 : Option Addr) (cl ll : List KT) (u : Int) (k : Nat) (vc vl : Value) (wr : World) : Prop := ∃ ac cc al cl' nk Fk, vc = .slice ac cl.length cc ∧ vl = .slice al ll.length cl' ∧ wr.ownsRow j5 34 4 (.slice ac cl.length cc) cl.length (krow (rowL cl) cl.length) ∧ wr.ownsRow j5 34 4 (.slice al ll.length cl') ll.length (krow (rowL ll) ll.length) ∧ (cl.length = 0 → ac = none) ∧ (ll.length = 0 → al = none) ∧ j5 ≤ wr.heap.size ∧ Bx3 wr bx (.int .i64 ep) (.int .i64 u) (.map (some bm)) ∧ nk ≤ n + k ∧ MapK wr bm nk Fk ∧ FL Fk (kep x y (lst M n) ++ cl) ∧ SrcC wr a1 ((gon x y (lst M n)).length * 4) (MFAsk (rowL (gon x y (lst M n)))) ∧ Bx3 wr (w.heap.size + 1) (.int .i64 0) (.int .i64 0) (.slice none 0 0) ∧ Below w.heap.size w wr
set_option maxHeartbeats 8000000 in
theorem implAgain_bad (ep us : Int) (a : Option Addr) (n c : Nat) (M : Nat → KT) (x y : Int) (w : World) (hm : n ≤ maxLen) (hf : SrcC w a (n * 4) (MFAsk M)) (hw : ∀ i, i < n → (Lit.int .i64 (M i).1).wf = true) (hbad : (tabB ep us M n && tmB x && tmB y) = false) :
    Calls Try.prog 8 #[.agg #[.int .i64 ep, .int .i64 us, .slice a n c], .int .i64 x, .int .i64 y] w fun e w' => ∃ a' c' a1 c1 a2 c2, e = .returned (.tuple #[.agg #[.int .i64 0, .int .i64 0, .slice a' 0 c'], .slice a1 0 c1, .slice a2 0 c2]) ∧ w'.ownsRow w.heap.size 34 4 (.slice a' 0 c') 0 (krow (M) 0) ∧ w'.ownsRow w.heap.size 34 4 (.slice a1 0 c1) 0 (krow (M) 0) ∧ w'.ownsRow w.heap.size 34 4 (.slice a2 0 c2) 0 (krow (M) 0) ∧ ((∀ g, (Value.slice a' 0 c').ownBlock = some g → (Value.slice a1 0 c1).ownBlock ≠ some g) ∧ (∀ g, (Value.slice a' 0 c').ownBlock = some g → (Value.slice a2 0 c2).ownBlock ≠ some g) ∧ (∀ g, (Value.slice a1 0 c1).ownBlock = some g → (Value.slice a2 0 c2).ownBlock ≠ some g)) ∧ Below w.heap.size w w' := by
  have N := (IB3.new w ep us a n c 26).below (Below.nw _ (.cells #[.int .i64 0, .int .i64 0, .slice none 0 0] 26))
  have R := Bx3.new (w.alloc (.cells #[.int .i64 ep, .int .i64 us, .slice a n c] 26)) (.int .i64 0) (.int .i64 0) (.slice none 0 0) 26
  have B := (Below.nw w (.cells #[.int .i64 ep, .int .i64 us, .slice a n c] 26)).trans ((Below.nw (w.alloc (.cells #[.int .i64 ep, .int .i64 us, .slice a n c] 26)) (.cells #[.int .i64 0, .int .i64 0, .slice none 0 0] 26)).mono (by simp))
  simp only [World.size_alloc] at R
  have C := bookOf_any ep us a n c M _ hm (hf.below B) hw
  clear hf hw
  go_enter Try.func8, Try.ntmps8
  go_upto_region 1 with fail
  generalize (w.alloc (.cells #[.int .i64 ep, .int .i64 us, .slice a n c] 26)).alloc (.cells #[.int .i64 0, .int .i64 0, .slice none 0 0] 26) = wa at *
  have hJ1 := R.1
  obtain ⟨n9, n0, n1, n2⟩ := id N
  go_wp2_with fail
  refine C.mono ?_
  rintro e wb ⟨V, rfl, hV0, hV1, hb⟩
  clear n9 n0 n1 n2 N
  replace R := R.below hb
  replace B := B.trans (hb.mono B.size)
  clear C
  cases ht : tabB ep us M n
  · have hV := hV0 ht
    subst hV
    clear hV0 hV1 ht hb hbad
    unfold zbk
    have A2 := Below.nw wb (.cells #[.int .i64 0, .int .i64 0, .map none] 50)
    replace R := R.below A2
    replace B := B.trans (A2.mono B.size)
    clear A2
    go_upto_region 2 with fail
    generalize wb.alloc (.cells #[.int .i64 0, .int .i64 0, .map none] 50) = wz at *
    have RQ := R.set (.int .i64 0) (.int .i64 0) (.slice none 0 0)
    have PB := put3_butK wz (w.heap.size + 1) (.int .i64 0) (.int .i64 0) (.slice none 0 0)
    have BQ := B.trans (PB.below (B := w.heap.size) (by omega) B.size)
    have OQ := World.ownsRow_nil (((wz.setCell ⟨w.heap.size + 1, 0, none⟩ (.int .i64 0)).setCell ⟨w.heap.size + 1, 1, none⟩ (.int .i64 0)).setCell ⟨w.heap.size + 1, 2, none⟩ (.slice none 0 0)) w.heap.size 34 4
    have SQ := OQ
    have SQ2 := OQ
    have DQ := And.intro (nil_disj 0 0 none) (And.intro (nil_disj 0 0 none) (nil_disj 0 0 none))
    have KZ : Hid (_ ∧ _ ∧ _ ∧ _ ∧ _) := ⟨OQ, SQ, SQ2, DQ, BQ⟩
    obtain ⟨r0, r1, r2, r3, r4, r5, r6⟩ := R
    clear PB OQ SQ SQ2 DQ BQ
    go_wp2_with fail
    generalize (((wz.setCell ⟨w.heap.size + 1, 0, none⟩ (.int .i64 0)).setCell ⟨w.heap.size + 1, 1, none⟩ (.int .i64 0)).setCell ⟨w.heap.size + 1, 2, none⟩ (.slice none 0 0)) = wq at *
    obtain ⟨q0, q1, q2, q3, q4, q5, q6⟩ := RQ
    exact bodyPost_ret (v := .tuple #[.agg #[.int .i64 0, .int .i64 0, .slice none 0 0], .slice none 0 0, .slice none 0 0]) (by simp (maxDischargeDepth := 6) [results, Try.results8, go_sem, q1, q2, q3]) rfl ⟨_, _, _, _, _, _, rfl, KZ.out⟩
  · rw [ht] at hbad
    obtain ⟨bm, rfl, hbm, MP⟩ := hV1 ht
    clear hV0 hV1 ht hb
    have A2 := Below.nw wb (.cells #[.int .i64 ep, .int .i64 us, .map (some bm)] 50)
    replace R := R.below A2
    replace B := B.trans (A2.mono B.size)
    clear A2 MP
    go_upto_region 2 with fail
    generalize wb.alloc (.cells #[.int .i64 ep, .int .i64 us, .map (some bm)] 50) = wz at *
    cases h1 : tmB x
    · clear hbad
      go_wp2_with fail
      refine (isTime_any _ _).mono ?_
      rintro e w' ⟨rfl, rfl⟩
      rw [h1]
      have RQ := R.set (.int .i64 0) (.int .i64 0) (.slice none 0 0)
      have PB := put3_butK wz (w.heap.size + 1) (.int .i64 0) (.int .i64 0) (.slice none 0 0)
      have BQ := B.trans (PB.below (B := w.heap.size) (by omega) B.size)
      have OQ := World.ownsRow_nil (((wz.setCell ⟨w.heap.size + 1, 0, none⟩ (.int .i64 0)).setCell ⟨w.heap.size + 1, 1, none⟩ (.int .i64 0)).setCell ⟨w.heap.size + 1, 2, none⟩ (.slice none 0 0)) w.heap.size 34 4
      have SQ := OQ
      have SQ2 := OQ
      have DQ := And.intro (nil_disj 0 0 none) (And.intro (nil_disj 0 0 none) (nil_disj 0 0 none))
      have KZ : Hid (_ ∧ _ ∧ _ ∧ _ ∧ _) := ⟨OQ, SQ, SQ2, DQ, BQ⟩
      obtain ⟨r0, r1, r2, r3, r4, r5, r6⟩ := R
      clear PB OQ SQ SQ2 DQ BQ
      go_wp2_with fail
      generalize (((wz.setCell ⟨w.heap.size + 1, 0, none⟩ (.int .i64 0)).setCell ⟨w.heap.size + 1, 1, none⟩ (.int .i64 0)).setCell ⟨w.heap.size + 1, 2, none⟩ (.slice none 0 0)) = wq at *
      obtain ⟨q0, q1, q2, q3, q4, q5, q6⟩ := RQ
      exact bodyPost_ret (v := .tuple #[.agg #[.int .i64 0, .int .i64 0, .slice none 0 0], .slice none 0 0, .slice none 0 0]) (by simp (maxDischargeDepth := 6) [results, Try.results8, go_sem, q1, q2, q3]) rfl ⟨_, _, _, _, _, _, rfl, KZ.out⟩
    · have h2 : tmB y = false := by rw [h1] at hbad; exact hbad
      clear hbad
      go_wp2_with fail
      refine (isTime_any _ _).mono ?_
      rintro e w' ⟨rfl, rfl⟩
      rw [h1]
      go_wp2_with fail
      refine (isTime_any _ _).mono ?_
      rintro e w' ⟨rfl, rfl⟩
      rw [h2]
      have RQ := R.set (.int .i64 0) (.int .i64 0) (.slice none 0 0)
      have PB := put3_butK wz (w.heap.size + 1) (.int .i64 0) (.int .i64 0) (.slice none 0 0)
      have BQ := B.trans (PB.below (B := w.heap.size) (by omega) B.size)
      have OQ := World.ownsRow_nil (((wz.setCell ⟨w.heap.size + 1, 0, none⟩ (.int .i64 0)).setCell ⟨w.heap.size + 1, 1, none⟩ (.int .i64 0)).setCell ⟨w.heap.size + 1, 2, none⟩ (.slice none 0 0)) w.heap.size 34 4
      have SQ := OQ
      have SQ2 := OQ
      have DQ := And.intro (nil_disj 0 0 none) (And.intro (nil_disj 0 0 none) (nil_disj 0 0 none))
      have KZ : Hid (_ ∧ _ ∧ _ ∧ _ ∧ _) := ⟨OQ, SQ, SQ2, DQ, BQ⟩
      obtain ⟨r0, r1, r2, r3, r4, r5, r6⟩ := R
      clear PB OQ SQ SQ2 DQ BQ
      go_wp2_with fail
      generalize (((wz.setCell ⟨w.heap.size + 1, 0, none⟩ (.int .i64 0)).setCell ⟨w.heap.size + 1, 1, none⟩ (.int .i64 0)).setCell ⟨w.heap.size + 1, 2, none⟩ (.slice none 0 0)) = wq at *
      obtain ⟨q0, q1, q2, q3, q4, q5, q6⟩ := RQ
      exact bodyPost_ret (v := .tuple #[.agg #[.int .i64 0, .int .i64 0, .slice none 0 0], .slice none 0 0, .slice none 0 0]) (by simp (maxDischargeDepth := 6) [results, Try.results8, go_sem, q1, q2, q3]) rfl ⟨_, _, _, _, _, _, rfl, KZ.out⟩
set_option maxRecDepth 100000 in
set_option maxHeartbeats 16000000 in
theorem implAgain_done (ep us : Int) (a : Option Addr) (n c : Nat) (M : Nat → KT) (x y : Int) (w : World) (hm : n ≤ maxLen) (hf : SrcC w a (n * 4) (MFAsk M)) (hw : ∀ i, i < n → (Lit.int .i64 (M i).1).wf = true) (ht : tabB ep us M n = true) (h1 : tmB x = true) (h2 : tmB y = true) (U : Int) (CL LL TL : List KT) (hagE : Hid (ag ep x us (gon x y (lst M n)) (gon x y (lst M n)).length = (U, CL, LL))) (hTL : Hid (TL = kep x y (lst M n) ++ CL)) :
    Calls Try.prog 8 #[.agg #[.int .i64 ep, .int .i64 us, .slice a n c], .int .i64 x, .int .i64 y] w fun e w' => ∃ a' c' a1 c1 a2 c2, e = .returned (.tuple #[.agg #[.int .i64 ep, .int .i64 U, .slice a' TL.length c'], .slice a1 CL.length c1, .slice a2 LL.length c2]) ∧ w'.ownsRow w.heap.size 34 4 (.slice a' TL.length c') TL.length (krow (rowL TL) TL.length) ∧ w'.ownsRow w.heap.size 34 4 (.slice a1 CL.length c1) CL.length (krow (rowL CL) CL.length) ∧ w'.ownsRow w.heap.size 34 4 (.slice a2 LL.length c2) LL.length (krow (rowL LL) LL.length) ∧ ((∀ g, (Value.slice a' TL.length c').ownBlock = some g → (Value.slice a1 CL.length c1).ownBlock ≠ some g) ∧ (∀ g, (Value.slice a' TL.length c').ownBlock = some g → (Value.slice a2 LL.length c2).ownBlock ≠ some g) ∧ (∀ g, (Value.slice a1 CL.length c1).ownBlock = some g → (Value.slice a2 LL.length c2).ownBlock ≠ some g)) ∧ Below w.heap.size w w' := by
  obtain ⟨i0, hi, hz0, hz1, hz2⟩ := infoK_parts
  have N := (IB3.new w ep us a n c 26).below (Below.nw _ (.cells #[.int .i64 0, .int .i64 0, .slice none 0 0] 26))
  have R := Bx3.new (w.alloc (.cells #[.int .i64 ep, .int .i64 us, .slice a n c] 26)) (.int .i64 0) (.int .i64 0) (.slice none 0 0) 26
  have B := (Below.nw w (.cells #[.int .i64 ep, .int .i64 us, .slice a n c] 26)).trans ((Below.nw (w.alloc (.cells #[.int .i64 ep, .int .i64 us, .slice a n c] 26)) (.cells #[.int .i64 0, .int .i64 0, .slice none 0 0] 26)).mono (by simp))
  simp only [World.size_alloc] at R
  have C := bookOf_any ep us a n c M _ hm (hf.below B) hw
  clear hf hw
  go_enter Try.func8, Try.ntmps8
  go_upto_region 1 with fail
  generalize (w.alloc (.cells #[.int .i64 ep, .int .i64 us, .slice a n c] 26)).alloc (.cells #[.int .i64 0, .int .i64 0, .slice none 0 0] 26) = wa at *
  have hJ1 := R.1
  obtain ⟨n9, n0, n1, n2⟩ := id N
  go_wp2_with fail
  refine C.mono ?_
  rintro e wb ⟨V, rfl, hV0, hV1, hb⟩
  clear n9 n0 n1 n2 N
  replace R := R.below hb
  replace B := B.trans (hb.mono B.size)
  clear C
  obtain ⟨bm, rfl, hbm, MP⟩ := hV1 ht
  rw [ht]
  have hok := tabB_tOk ht
  have hn16 := tabB_len' ht
  have hnums := tabB_nums ht
  have HFL : Hid (FL (lkK M n) (lst M n)) := FL_lst (FA.lk (tOk_asc hok))
  have HAT : Hid (atB (lst M n)) := el_at ht
  have HTR : Hid (trB4 (lst M n)) := el_try ht
  have HBL : Hid (∀ b ∈ lst M n, b.1 < ep * 1000 + us) := el_below ht
  have HOK : Hid (∀ k, us ≤ (ag ep x us (gon x y (lst M n)) k).1 ∧ (ag ep x us (gon x y (lst M n)) k).1 ≤ 1000 ∧ (ag ep x us (gon x y (lst M n)) k).2.1.length + (ag ep x us (gon x y (lst M n)) k).2.2.length = k ∧ (∀ b ∈ (ag ep x us (gon x y (lst M n)) k).2.1, b.1 < ep * 1000 + (ag ep x us (gon x y (lst M n)) k).1 ∧ b.2.2.1 = x) ∧ ∀ b ∈ (ag ep x us (gon x y (lst M n)) k).2.2, ∃ j, j < k ∧ b = rowL (gon x y (lst M n)) j) := fun k => ag_ok (by omega) k
  have hy0 := (tmB_in h2).1
  have hgn : (gon x y (lst M n)).length ≤ n := by have := gon_le x y (lst M n); rw [lst_len] at this; exact this
  clear hV0 hV1 hok ht
  have A2 := Below.nw wb (.cells #[.int .i64 ep, .int .i64 us, .map (some bm)] 50)
  have X := Bx3.new wb (.int .i64 ep) (.int .i64 us) (.map (some bm)) 50
  have hmb : bm < wb.heap.size := MP.lt
  have hab := hb.size
  replace R := R.below A2
  replace MP := MP.below A2
  replace B := B.trans (A2.mono B.size)
  have hzs := A2.size
  clear A2 hb
  go_upto_region 2 with fail
  generalize hbx : wb.heap.size = bx at *
  generalize wb.alloc (.cells #[.int .i64 ep, .int .i64 us, .map (some bm)] 50) = wz at *
  go_wp2_with fail
  refine (isTime_any _ _).mono ?_
  rintro e w' ⟨rfl, rfl⟩
  rw [h1]
  go_wp2_with fail
  refine (isTime_any _ _).mono ?_
  rintro e w' ⟨rfl, rfl⟩
  rw [h2]
  go_wp2_with fail
  refine (takeLate_any bx bm n ep us x y _ (lst M n) wz X MP (by omega) HFL.out (by omega) (tmB_in h1) HAT.out).mono ?_
  rintro e w5 ⟨a1, c1, F5, rfl, OS, X5, MP5, HF5, hb5⟩
  have HF : Hid (FL F5 (kep x y (lst M n))) := HF5
  have hs5 := hb5.2.2.2.1
  replace R := R.but hb5 (by omega)
  replace B := B.trans (hb5.below (B := w.heap.size) (by omega) B.size)
  have hbxz : bx < wz.heap.size := X.1
  clear hb5 X MP HF5 h1 h2 HFL HAT
  have HGZ : Hid (∀ g off, a1 = some ⟨g, off, none⟩ → wz.heap.size ≤ g ∧ g < w5.heap.size ∧ off = 0) := by
    intro g off e
    have h1 := own_at OS e
    have h2 := World.ownsRow.lt OS g h1
    refine ⟨h2.1, h2.2, ?_⟩
    rcases OS.2 with ⟨he, _⟩ | ⟨g', cap, cur, he, _⟩
    · simp at he; rw [he.1] at e; cases e
    · simp at he; rw [he.1] at e; simp at e; exact e.2.symm
  have SZ := own_srcK OS
  clear OS
  go_wp2_with fail
  generalize hj5 : w5.heap.size = j5 at *
  go_loopw [11, 12, 39] (fun s11 s12 s39 wr => ∃ k : Nat, k ≤ (gon x y (lst M n)).length ∧ s39 = .int .i64 (k : Int) ∧ ∃ cl ll u, ag ep x us (gon x y (lst M n)) k = (u, cl, ll) ∧ AgInv ep us x y M n w bx bm j5 a1 cl ll u k s11 s12 wr) (fun _ _ s39 _ => (gon x y (lst M n)).length - (vI s39).toNat)
  case atStart => exact ⟨0, Nat.zero_le _, rfl, [], [], us, rfl, none, 0, none, 0, n, F5, rfl, rfl, World.ownsRow_nil _ _ _ _, World.ownsRow_nil _ _ _ _, fun _ => rfl, fun _ => rfl, by omega, X5, by omega, MP5, by rw [List.append_nil]; exact HF.out, SZ, R, B⟩
  case round =>
    clear X5 MP5 SZ R B HF
    obtain ⟨k, hk, rfl, cl, ll, u, hag, ac, cc, al, cl', nk, Fk, rfl, rfl, WC, WL, hac, hal, hjw, X, hnk, MP, HF, SZ, R, B⟩ := hrel
    have HFk : Hid (FL Fk (kep x y (lst M n) ++ cl)) := HF
    have HAC : Hid (cl.length = 0 → ac = none) := hac
    have HAL : Hid (ll.length = 0 → al = none) := hal
    have HAG : Hid (ag ep x us (gon x y (lst M n)) k = (u, cl, ll)) := hag
    obtain ⟨q1, q2, q3, q4, q5⟩ := HOK.out k
    rw [hag] at q1 q2 q3 q4 q5
    simp only at q1 q2 q3 q4 q5
    have HQ4 : Hid (∀ b ∈ cl, b.1 < ep * 1000 + u ∧ b.2.2.1 = x) := q4
    have HQ5 : Hid (∀ b ∈ ll, ∃ j, j < k ∧ b = rowL (gon x y (lst M n)) j) := q5
    have HD : Hid (∀ g, (Value.slice ac cl.length cc).ownBlock = some g → (Value.slice al ll.length cl').ownBlock ≠ some g) := apart WC WL hac hal (fun p1 p2 e => by
      have e1 := (q4 _ (head_in p1)).2
      obtain ⟨j, hj, e2⟩ := q5 _ (head_in p2)
      have e3 := gon_late (x := x) (y := y) (L := lst M n) (j := j) (by omega)
      rw [← e2, ← e, e1] at e3
      omega)
    clear HF hac hal hag q4 q5
    by_cases hlt : k < (gon x y (lst M n)).length
    · have hli : (k : Int) < ((gon x y (lst M n)).length : Int) := by omega
      rcases SZ with h0 | ⟨g, off, hazg, CZ⟩
      · omega
      subst hazg
      obtain ⟨hg1, hg2, hg3⟩ := HGZ.out g off rfl
      subst hg3
      obtain ⟨y0, y1, y2, y3, hY⟩ := tupAsk (rowL (gon x y (lst M n))) k
      obtain ⟨c0, c1', c2, c3⟩ := CZ.elAsk hlt hY
      rw [Nat.zero_add] at c0 c1' c2 c3
      have hy3 : 1 ≤ y3 ∧ y3 ≤ 4 := by
        have hmm : rowL (gon x y (lst M n)) k ∈ (gon x y (lst M n)) := by unfold rowL; rw [List.getD_eq_getElem?_getD, List.getElem?_eq_getElem hlt]; exact List.getElem_mem hlt
        have := HTR.out _ (List.mem_filter.1 hmm).1
        rw [hY] at this
        exact this
      have HNX0 : Hid (ag ep x us (gon x y (lst M n)) (k + 1) = agN ep x (kT y0 y1 y2 y3) u cl ll) := by rw [Hid, ag, HAG.out, hY]; rfl
      have A1 := Below.nw wr (.cells #[.int .i64 y0, .int .i64 y1, .int .i64 y2, .int .i64 y3] 34)
      have Kx := Bf4.new wr y0 y1 y2 y3 34
      have hwr := X.1
      have hmr := MP.lt
      have hgr := CZ.1
      clear hY
      go_upto_region 8 with fail
      clear c0 c1' c2 c3
      replace WC := own_belK' WC A1
      replace WL := own_belK' WL A1
      replace X := X.below A1
      replace MP := MP.below A1
      replace CZ := CZ.below A1 CZ.1
      replace R := R.below A1
      replace B := B.trans (A1.mono B.size)
      have hs1 := A1.size
      clear A1
      generalize hbk : wr.heap.size = bk at *
      generalize wr.alloc (.cells #[.int .i64 y0, .int .i64 y1, .int .i64 y2, .int .i64 y3] 34) = w4 at *
      obtain ⟨⟨k0, k1, k2, k3, k4⟩, -, -, -, -⟩ := id Kx
      go_wp2_with fail
      clear k0 k1 k2 k3 k4
      by_cases h4 : y3 = 4
      · subst h4
        have HNX : Hid (ag ep x us (gon x y (lst M n)) (k + 1) = (u, cl, ll ++ [kT y0 y1 y2 4])) := HNX0.out.trans (if_pos (.inl rfl))
        refine (retry_four bx bm nk ep u y0 y1 y2 x Fk w4 X MP).mono ?_
        rintro e w6' ⟨rfl, hb⟩
        have hs6' := hb.size
        replace WC := own_belK' WC hb
        replace WL := own_belK' WL hb
        replace X := X.below hb
        replace MP := MP.below hb
        replace CZ := CZ.below hb CZ.1
        replace R := R.below hb
        replace Kx := Kx.below hb
        replace B := B.trans (hb.mono B.size)
        clear hb
        have A2 := Below.nw w6' (.cells #[.int .i64 0, .int .i64 0, .int .i64 0, .int .i64 0] 34)
        replace WC := own_belK' WC A2
        replace WL := own_belK' WL A2
        replace X := X.below A2
        replace MP := MP.below A2
        replace CZ := CZ.below A2 CZ.1
        replace R := R.below A2
        replace Kx := Kx.below A2
        replace B := B.trans (A2.mono B.size)
        have hs2 := A2.size
        clear A2
        go_upto_region 9 with fail
        generalize hbk2 : w6'.heap.size = bk2 at *
        generalize w6'.alloc (.cells #[.int .i64 0, .int .i64 0, .int .i64 0, .int .i64 0] 34) = w6 at *
        have A6 := Below.nw w6 (.cells #[.int .i64 y0, .int .i64 y1, .int .i64 y2, .int .i64 4] 34)
        have W6 := World.ownsRow.alloc WL (.cells #[.int .i64 y0, .int .i64 y1, .int .i64 y2, .int .i64 4] 34)
        have hs6 : j5 ≤ w6.heap.size := by omega
        have HN : Hid (∀ j u, [Value.int .i64 y0, .int .i64 y1, .int .i64 y2, .int .i64 4][j]? = some u → (w6.alloc (.cells #[.int .i64 y0, .int .i64 y1, .int .i64 y2, .int .i64 4] 34)).cell? ((⟨w6.heap.size, 0, none⟩ : Addr).add j) = some u) := fun j u hu => four_at w6 y0 y1 y2 4 34 j u hu
        have HW : Hid (krow (rowL ll) ll.length ++ [.int .i64 y0, .int .i64 y1, .int .i64 y2, .int .i64 4] = krow (rowL (ll ++ [kT y0 y1 y2 4])) (ll ++ [kT y0 y1 y2 4]).length) := by rw [Hid, List.length_append]; exact krowL_add _ _ _ _ _
        obtain ⟨⟨k0, k1, k2, k3, k4⟩, -, -, -, -⟩ := id Kx
        go_wp2_with (at_builtin; refine wpList_append_own _ rfl _ _ 24 rfl j5 34 i0 (.agg #[.int .i64 0, .int .i64 0, .int .i64 0, .int .i64 0]) 4 32 Try.underlying24 hi hz0 hz1 hz2 rfl (by decide) _ _ _ rfl W6 ⟨w6.heap.size, 0, none⟩ 1 1 [.int .i64 y0, .int .i64 y1, .int .i64 y2, .int .i64 4] rfl rfl HN.out (four_one _ _ _ _) ?c3 ?c4 ?c5 ?_)
        case c3 => unfold maxLen; omega
        case c4 => omega
        case c5 => first | omega | (simp; omega)
        intro v' wn hown' hgrow _
        rw [HW.out] at hown'
        replace hown' : wn.ownsRow j5 34 4 v' (ll ++ [kT y0 y1 y2 4]).length (krow (rowL (ll ++ [kT y0 y1 y2 4])) (ll ++ [kT y0 y1 y2 4]).length) := by rw [List.length_append] at *; exact hown'
        clear k0 k1 k2 k3 k4
        have GL : ∀ g, (Value.slice al ll.length cl').ownBlock = some g → j5 ≤ g := fun g hg => (World.ownsRow.lt WL g hg).1
        have WC' := World.ownsRow.kept (World.ownsRow.alloc WC (.cells #[.int .i64 y0, .int .i64 y1, .int .i64 y2, .int .i64 4] 34)) hgrow (ne_own (fun g h1 h2 => HD.out g h2 h1))
        have X' := (X.below A6).kept3 hgrow (fun e => by have := GL _ e.symm; omega)
        have MP' := (MP.below A6).kept hgrow (fun e => by have := GL _ e.symm; omega)
        have R' := (R.below A6).kept3 hgrow (fun e => by have := GL _ e.symm; omega)
        have CZ' := (CZ.below A6 CZ.1).kept hgrow (fun e => by have := GL _ e.symm; omega)
        have B' := (B.trans (A6.mono B.size)).trans (grown_bel hgrow (B.trans (A6.mono B.size)).size (fun q h e => by have := GL _ e.symm; omega))
        have hjn : j5 ≤ wn.heap.size := Nat.le_trans (Nat.le_trans hs6 A6.size) hgrow.size
        obtain ⟨a', c', rfl, _, _, _⟩ := ownF_src hown'
        have HRL : Hid (AgInv ep us x y M n w bx bm j5 (some ⟨g, 0, none⟩) cl (ll ++ [kT y0 y1 y2 4]) u (k + 1) (.slice ac cl.length cc) (.slice a' (ll ++ [kT y0 y1 y2 4]).length c') wn) := ⟨ac, cc, a', c', nk, Fk, rfl, rfl, WC', hown', HAC.out, fun h => absurd h (by simp), hjn, X', by omega, MP', HFk.out, .inr ⟨g, 0, rfl, CZ'⟩, R', B'⟩
        clear A6 W6 HN HW hgrow WL WC X MP R CZ B hown' WC' X' MP' R' CZ' B' Kx
        go_wp2_with fail
        go_roundw
        case rel => exact ⟨k + 1, by omega, by go_num, cl, ll ++ [kT y0 y1 y2 4], u, HNX.out, by simpa using HRL.out⟩
        case measure => simp [vI]; omega
      · by_cases hu : u = 1000
        · have HU : Hid (u = 1000) := hu
          have HNX : Hid (ag ep x us (gon x y (lst M n)) (k + 1) = (u, cl, ll ++ [kT y0 y1 y2 y3])) := HNX0.out.trans (if_pos (.inr hu))
          clear hu
          refine (retry_no bx bm nk ep u y0 y1 y2 y3 x Fk w4 X MP h4 hy3 HU).mono ?_
          rintro e w6' ⟨rfl, hb⟩
          have hs6' := hb.size
          replace WC := own_belK' WC hb
          replace WL := own_belK' WL hb
          replace X := X.below hb
          replace MP := MP.below hb
          replace CZ := CZ.below hb CZ.1
          replace R := R.below hb
          replace Kx := Kx.below hb
          replace B := B.trans (hb.mono B.size)
          clear hb
          have A2 := Below.nw w6' (.cells #[.int .i64 0, .int .i64 0, .int .i64 0, .int .i64 0] 34)
          replace WC := own_belK' WC A2
          replace WL := own_belK' WL A2
          replace X := X.below A2
          replace MP := MP.below A2
          replace CZ := CZ.below A2 CZ.1
          replace R := R.below A2
          replace Kx := Kx.below A2
          replace B := B.trans (A2.mono B.size)
          have hs2 := A2.size
          clear A2
          go_upto_region 9 with fail
          generalize hbk2 : w6'.heap.size = bk2 at *
          generalize w6'.alloc (.cells #[.int .i64 0, .int .i64 0, .int .i64 0, .int .i64 0] 34) = w6 at *
          have A6 := Below.nw w6 (.cells #[.int .i64 y0, .int .i64 y1, .int .i64 y2, .int .i64 y3] 34)
          have W6 := World.ownsRow.alloc WL (.cells #[.int .i64 y0, .int .i64 y1, .int .i64 y2, .int .i64 y3] 34)
          have hs6 : j5 ≤ w6.heap.size := by omega
          have HN : Hid (∀ j u, [Value.int .i64 y0, .int .i64 y1, .int .i64 y2, .int .i64 y3][j]? = some u → (w6.alloc (.cells #[.int .i64 y0, .int .i64 y1, .int .i64 y2, .int .i64 y3] 34)).cell? ((⟨w6.heap.size, 0, none⟩ : Addr).add j) = some u) := fun j u hu => four_at w6 y0 y1 y2 y3 34 j u hu
          have HW : Hid (krow (rowL ll) ll.length ++ [.int .i64 y0, .int .i64 y1, .int .i64 y2, .int .i64 y3] = krow (rowL (ll ++ [kT y0 y1 y2 y3])) (ll ++ [kT y0 y1 y2 y3]).length) := by rw [Hid, List.length_append]; exact krowL_add _ _ _ _ _
          obtain ⟨⟨k0, k1, k2, k3, k4⟩, -, -, -, -⟩ := id Kx
          go_wp2_with (at_builtin; refine wpList_append_own _ rfl _ _ 24 rfl j5 34 i0 (.agg #[.int .i64 0, .int .i64 0, .int .i64 0, .int .i64 0]) 4 32 Try.underlying24 hi hz0 hz1 hz2 rfl (by decide) _ _ _ rfl W6 ⟨w6.heap.size, 0, none⟩ 1 1 [.int .i64 y0, .int .i64 y1, .int .i64 y2, .int .i64 y3] rfl rfl HN.out (four_one _ _ _ _) ?c3 ?c4 ?c5 ?_)
          case c3 => unfold maxLen; omega
          case c4 => omega
          case c5 => first | omega | (simp; omega)
          intro v' wn hown' hgrow _
          rw [HW.out] at hown'
          replace hown' : wn.ownsRow j5 34 4 v' (ll ++ [kT y0 y1 y2 y3]).length (krow (rowL (ll ++ [kT y0 y1 y2 y3])) (ll ++ [kT y0 y1 y2 y3]).length) := by rw [List.length_append] at *; exact hown'
          clear k0 k1 k2 k3 k4
          have GL : ∀ g, (Value.slice al ll.length cl').ownBlock = some g → j5 ≤ g := fun g hg => (World.ownsRow.lt WL g hg).1
          have WC' := World.ownsRow.kept (World.ownsRow.alloc WC (.cells #[.int .i64 y0, .int .i64 y1, .int .i64 y2, .int .i64 y3] 34)) hgrow (ne_own (fun g h1 h2 => HD.out g h2 h1))
          have X' := (X.below A6).kept3 hgrow (fun e => by have := GL _ e.symm; omega)
          have MP' := (MP.below A6).kept hgrow (fun e => by have := GL _ e.symm; omega)
          have R' := (R.below A6).kept3 hgrow (fun e => by have := GL _ e.symm; omega)
          have CZ' := (CZ.below A6 CZ.1).kept hgrow (fun e => by have := GL _ e.symm; omega)
          have B' := (B.trans (A6.mono B.size)).trans (grown_bel hgrow (B.trans (A6.mono B.size)).size (fun q h e => by have := GL _ e.symm; omega))
          have hjn : j5 ≤ wn.heap.size := Nat.le_trans (Nat.le_trans hs6 A6.size) hgrow.size
          obtain ⟨a', c', rfl, _, _, _⟩ := ownF_src hown'
          have HRL : Hid (AgInv ep us x y M n w bx bm j5 (some ⟨g, 0, none⟩) cl (ll ++ [kT y0 y1 y2 y3]) u (k + 1) (.slice ac cl.length cc) (.slice a' (ll ++ [kT y0 y1 y2 y3]).length c') wn) := ⟨ac, cc, a', c', nk, Fk, rfl, rfl, WC', hown', HAC.out, fun h => absurd h (by simp), hjn, X', by omega, MP', HFk.out, .inr ⟨g, 0, rfl, CZ'⟩, R', B'⟩
          clear A6 W6 HN HW hgrow WL WC X MP R CZ B hown' WC' X' MP' R' CZ' B' Kx
          go_wp2_with fail
          go_roundw
          case rel => exact ⟨k + 1, by omega, by go_num, cl, ll ++ [kT y0 y1 y2 y3], u, HNX.out, by simpa using HRL.out⟩
          case measure => simp [vI]; omega
        · have HNX : Hid (ag ep x us (gon x y (lst M n)) (k + 1) = (u + 1, cl ++ [kT (ep * 1000 + u) y1 x (y3 + 1)], ll)) := HNX0.out.trans (if_neg (fun h => h.elim h4 hu))
          refine (retry_yes bx bm nk ep u y0 y1 y2 y3 x Fk w4 X MP (by omega) h4 hy3 hnums.1 (by omega) (by omega) _ rfl).mono ?_
          rintro e w6' ⟨rfl, X6, MP6, hb⟩
          have hs6' := hb.2.2.2.1
          replace WC := own_two2 WC hb (fun q hq => by have := (World.ownsRow.lt WC q hq).1; omega)
          replace WL := own_two2 WL hb (fun q hq => by have := (World.ownsRow.lt WL q hq).1; omega)
          replace CZ := CZ.but2 hb (by omega) (by omega)
          replace R := R.but2 hb (by omega) (by omega)
          replace B := B.trans (hb.below (by omega) (by omega) B.size)
          have HF6 : Hid (FL (fun q => if q = ep * 1000 + u then some (kT (ep * 1000 + u) y1 x (y3 + 1)) else Fk q) (kep x y (lst M n) ++ (cl ++ [kT (ep * 1000 + u) y1 x (y3 + 1)]))) := by
            rw [Hid, ← List.append_assoc]
            refine HFk.out.add rfl fun b hb => ?_
            rcases List.mem_append.1 hb with p1 | p1
            · have := HBL.out b (List.mem_filter.1 p1).1; omega
            · exact (HQ4.out b p1).1
          clear hb X MP Kx HFk
          generalize ep * 1000 + u = nn at *
          have A2 := Below.nw w6' (.cells #[.int .i64 nn, .int .i64 y1, .int .i64 x, .int .i64 (y3 + 1)] 34)
          have Ky := Bf4.new w6' nn y1 x (y3 + 1) 34
          replace WC := own_belK' WC A2
          replace WL := own_belK' WL A2
          replace X6 := X6.below A2
          replace MP6 := MP6.below A2
          replace CZ := CZ.below A2 CZ.1
          replace R := R.below A2
          replace B := B.trans (A2.mono B.size)
          have hs2 := A2.size
          clear A2
          go_upto_region 9 with fail
          generalize hbk2 : w6'.heap.size = bk2 at *
          generalize w6'.alloc (.cells #[.int .i64 nn, .int .i64 y1, .int .i64 x, .int .i64 (y3 + 1)] 34) = w6 at *
          have A6 := Below.nw w6 (.cells #[.int .i64 nn, .int .i64 y1, .int .i64 x, .int .i64 (y3 + 1)] 34)
          have W6 := World.ownsRow.alloc WC (.cells #[.int .i64 nn, .int .i64 y1, .int .i64 x, .int .i64 (y3 + 1)] 34)
          have hs6 : j5 ≤ w6.heap.size := by omega
          have HN : Hid (∀ j u, [Value.int .i64 nn, .int .i64 y1, .int .i64 x, .int .i64 (y3 + 1)][j]? = some u → (w6.alloc (.cells #[.int .i64 nn, .int .i64 y1, .int .i64 x, .int .i64 (y3 + 1)] 34)).cell? ((⟨w6.heap.size, 0, none⟩ : Addr).add j) = some u) := fun j u hu => four_at w6 nn y1 x (y3 + 1) 34 j u hu
          have HW : Hid (krow (rowL cl) cl.length ++ [.int .i64 nn, .int .i64 y1, .int .i64 x, .int .i64 (y3 + 1)] = krow (rowL (cl ++ [kT nn y1 x (y3 + 1)])) (cl ++ [kT nn y1 x (y3 + 1)]).length) := by rw [Hid, List.length_append]; exact krowL_add _ _ _ _ _
          obtain ⟨⟨k0, k1, k2, k3, k4⟩, -, -, -, -⟩ := id Ky
          go_wp2_with (at_builtin; refine wpList_append_own _ rfl _ _ 24 rfl j5 34 i0 (.agg #[.int .i64 0, .int .i64 0, .int .i64 0, .int .i64 0]) 4 32 Try.underlying24 hi hz0 hz1 hz2 rfl (by decide) _ _ _ rfl W6 ⟨w6.heap.size, 0, none⟩ 1 1 [.int .i64 nn, .int .i64 y1, .int .i64 x, .int .i64 (y3 + 1)] rfl rfl HN.out (four_one _ _ _ _) ?c3 ?c4 ?c5 ?_)
          case c3 => unfold maxLen; omega
          case c4 => omega
          case c5 => first | omega | (simp; omega)
          intro v' wn hown' hgrow _
          rw [HW.out] at hown'
          replace hown' : wn.ownsRow j5 34 4 v' (cl ++ [kT nn y1 x (y3 + 1)]).length (krow (rowL (cl ++ [kT nn y1 x (y3 + 1)])) (cl ++ [kT nn y1 x (y3 + 1)]).length) := by rw [List.length_append] at *; exact hown'
          clear k0 k1 k2 k3 k4
          have GLc : ∀ g, (Value.slice ac cl.length cc).ownBlock = some g → j5 ≤ g := fun g hg => (World.ownsRow.lt WC g hg).1
          have WL' := World.ownsRow.kept (World.ownsRow.alloc WL (.cells #[.int .i64 nn, .int .i64 y1, .int .i64 x, .int .i64 (y3 + 1)] 34)) hgrow (ne_own (fun g h1 h2 => HD.out g h1 h2))
          have X' := (X6.below A6).kept3 hgrow (fun e => by have := GLc _ e.symm; omega)
          have MP' := (MP6.below A6).kept hgrow (fun e => by have := GLc _ e.symm; omega)
          have R' := (R.below A6).kept3 hgrow (fun e => by have := GLc _ e.symm; omega)
          have CZ' := (CZ.below A6 CZ.1).kept hgrow (fun e => by have := GLc _ e.symm; omega)
          have B' := (B.trans (A6.mono B.size)).trans (grown_bel hgrow (B.trans (A6.mono B.size)).size (fun q h e => by have := GLc _ e.symm; omega))
          have hjn : j5 ≤ wn.heap.size := Nat.le_trans (Nat.le_trans hs6 A6.size) hgrow.size
          obtain ⟨a', c', rfl, _, _, _⟩ := ownF_src hown'
          have HRL : Hid (AgInv ep us x y M n w bx bm j5 (some ⟨g, 0, none⟩) (cl ++ [kT nn y1 x (y3 + 1)]) ll (u + 1) (k + 1) (.slice a' (cl ++ [kT nn y1 x (y3 + 1)]).length c') (.slice al ll.length cl') wn) := ⟨a', c', al, cl', nk + 1, _, rfl, rfl, hown', WL', fun h => absurd h (by simp), HAL.out, hjn, X', by omega, MP', HF6.out, .inr ⟨g, 0, rfl, CZ'⟩, R', B'⟩
          clear A6 W6 HN HW hgrow WL WC X6 MP6 R CZ B hown' WL' X' MP' R' CZ' B' Ky HF6
          go_wp2_with fail
          go_roundw
          case rel => exact ⟨k + 1, by omega, by go_num, _, _, _, HNX.out, by simpa using HRL.out⟩
          case measure => simp [vI]; omega
    · have hkn : k = (gon x y (lst M n)).length := by omega
      have hli : ¬ (k : Int) < ((gon x y (lst M n)).length : Int) := by omega
      have HAGE : ag ep x us (gon x y (lst M n)) (gon x y (lst M n)).length = (u, cl, ll) := by rw [← hkn]; exact HAG.out
      obtain ⟨rfl, rfl, rfl⟩ : u = U ∧ cl = CL ∧ ll = LL := by have := HAGE.symm.trans hagE.out; simpa using this
      clear HAGE
      have HFT : Hid (FL Fk TL) := by rw [Hid, hTL.out]; exact HFk.out
      clear HFk
      go_wp2_with fail
      refine (table_any bx bm nk TL.length ep u Fk (rowL TL) wr X MP (by omega) HFT.out).mono ?_
      rintro e w6 ⟨a', c', rfl, OW, hb6⟩
      have hjr : w.heap.size + 1 < wr.heap.size := R.1
      replace R := R.below hb6
      have WCL : ∀ g, (Value.slice ac cl.length cc).ownBlock = some g → j5 ≤ g ∧ g < wr.heap.size := fun g hg => World.ownsRow.lt WC g hg
      have WLL : ∀ g, (Value.slice al ll.length cl').ownBlock = some g → j5 ≤ g ∧ g < wr.heap.size := fun g hg => World.ownsRow.lt WL g hg
      have OWL : ∀ g, (Value.slice a' TL.length c').ownBlock = some g → wr.heap.size ≤ g ∧ g < w6.heap.size := fun g hg => World.ownsRow.lt OW g hg
      have HP : Hid ((∀ g, (Value.slice a' TL.length c').ownBlock = some g → (Value.slice ac cl.length cc).ownBlock ≠ some g) ∧ (∀ g, (Value.slice a' TL.length c').ownBlock = some g → (Value.slice al ll.length cl').ownBlock ≠ some g) ∧ (∀ g, (Value.slice ac cl.length cc).ownBlock = some g → (Value.slice al ll.length cl').ownBlock ≠ some g)) := ⟨fun g p1 p2 => by have r1 := OWL g p1; have r2 := WCL g p2; omega, fun g p1 p2 => by have r1 := OWL g p1; have r2 := WLL g p2; omega, HD.out⟩
      replace WC := own_belK' WC hb6
      replace WL := own_belK' WL hb6
      have hwJ : w.heap.size ≤ wr.heap.size := B.size
      replace B := B.trans (hb6.mono B.size)
      clear hb6 X MP SZ WCL WLL OWL
      have RQ := R.set (.int .i64 ep) (.int .i64 u) (.slice a' TL.length c')
      have PB := put3_butK w6 (w.heap.size + 1) (.int .i64 ep) (.int .i64 u) (.slice a' TL.length c')
      have BQ := B.trans (PB.below (B := w.heap.size) (by omega) B.size)
      have OQ := ownK_le (base' := w.heap.size) (own_butK OW PB (by omega)) hwJ
      have SQ := ownK_le (base' := w.heap.size) (own_butK WC PB (by omega)) (by omega)
      have SQ2 := ownK_le (base' := w.heap.size) (own_butK WL PB (by omega)) (by omega)
      have DQ := HP.out
      have KZ : Hid (_ ∧ _ ∧ _ ∧ _ ∧ _) := ⟨OQ, SQ, SQ2, DQ, BQ⟩
      obtain ⟨r0, r1, r2, r3, r4, r5, r6⟩ := R
      clear PB OQ SQ SQ2 DQ BQ
      go_wp2_with fail
      generalize (((w6.setCell ⟨w.heap.size + 1, 0, none⟩ (.int .i64 ep)).setCell ⟨w.heap.size + 1, 1, none⟩ (.int .i64 u)).setCell ⟨w.heap.size + 1, 2, none⟩ (.slice a' TL.length c')) = wq at *
      obtain ⟨q0, q1, q2, q3, q4, q5, q6⟩ := RQ
      exact bodyPost_ret (v := .tuple #[.agg #[.int .i64 ep, .int .i64 u, .slice a' TL.length c'], .slice ac cl.length cc, .slice al ll.length cl']) (by simp (maxDischargeDepth := 6) [results, Try.results8, go_sem, q1, q2, q3]) rfl ⟨_, _, _, _, _, _, rfl, KZ.out⟩
end Go.Proofs.Ytlaladalnbdhpaa
