/- The walk of FnStream. -/
import Derived.Test.YtbflhhifkhoapaaY7
import Derived.Test.YtbflhhifkhoapaaJ7
import Derived.Deep.RegionHeld3
import Derived.Deep.DeepCutAuto
import Derived.WalkKit
import Derived.WalkSpells
import Derived.WalkLawsBesides
import Derived.Deep.QuietTactic
import Derived.BigQuiet
namespace Go.Proofs.Ytbflhhifkhoapaa
open Go.RowKit
set_option linter.unusedVariables false
theorem range_A (A : List MT) : ∀ (k i : Nat), i + k ≤ A.length → (List.range' i k).map (fun j => A.getD j zT) = (A.drop i).take k
  | 0, i, _ => by simp
  | k + 1, i, h => by
    rw [List.range'_succ, List.map_cons, range_A A k (i + 1) (by omega)]
    have hi : i < A.length := by omega
    rw [List.drop_eq_getElem_cons hi, List.take_succ_cons]
    simp [hi]
theorem take_at {A : List MT} {k i : Nat} (h : i < k) : (A.take k).getD i zT = A.getD i zT := by simp [List.getD_eq_getElem?_getD, h]
/-- the element, opaque to simp -/
def EL (A : List MT) (i : Nat) : MT := A.getD i zT
theorem EL_take {A : List MT} {k i : Nat} (h : i < k) : EL (A.take k) i = EL A i := take_at h
theorem small_at {A : List MT} (h : smallM A) : ∀ i, i < A.length → ((EL A i).2.2.2.2.2.2.2).size ≤ 1048576 := fun i hi => by
  have : EL A i ∈ A := by
    unfold EL
    rw [List.getD_eq_getElem?_getD, List.getElem?_eq_getElem hi]
    exact List.getElem_mem hi
  exact Nat.le_trans (h _ this) (by omega)
theorem jn_one {M : Nat → MT} {i : Nat} (h : msgT (M i) = true) : jB (fun j => M (i + j)) 1 = true ∧ (jR (fun j => M (i + j)) 1).length = 1 + (pkL (M i)).length := by
  have hB : jB (fun j => M (i + j)) 1 = true := by
    refine jB_ok ?_ (by omega)
    simp only [okN, Nat.add_zero]
    rw [h]; rfl
  refine ⟨hB, ?_⟩
  rw [jR_ok hB, jn_step (M := fun j => M (i + j)) (n := 0) h]
  simp [jn]
  omega
theorem Cs.elem8 {w : World} {b off n i : Nat} {M : Nat → MT} (h : Cs w b off (n * 8) (MFMsg M)) (hi : i < n) : Cs w b (off + i * 8) (1 * 8) (MFMsg fun j => M (i + j)) := by
  refine ⟨h.1, fun j hj => ?_⟩
  have := h.2 (i * 8 + j) (by omega)
  rw [← Nat.add_assoc] at this
  rw [this]
  have e1 : MFMsg M (i * 8 + j) = MCMsg (M i) j := MFMsg_at M i j (by omega)
  have e2 : MFMsg (fun j => M (i + j)) j = MCMsg (M i) j := by
    have := MFMsg_at (fun j => M (i + j)) 0 j (by omega)
    simpa using this
  rw [e1, e2]
theorem jn_rng' {M : Nat → MT} : ∀ {n : Nat}, okN M n = true → ∀ z ∈ jn M n, 0 ≤ z ∧ z ≤ 255
  | 0, _, z, hz => by simp [jn] at hz
  | n + 1, h, z, hz => by
    have hh := h
    simp only [okN, Bool.and_eq_true] at h
    rw [jn_step h.2] at hz
    rcases List.mem_append.1 hz with q | q
    · exact jn_rng' h.1 z q
    · rcases List.mem_cons.1 q with rfl | q
      · have := pkL_short h.2; omega
      · exact pkL_rng h.2 z q
theorem jn_rng {M : Nat → MT} {n : Nat} (h : okN M n = true) : ∀ i, i < (jn M n).length → 0 ≤ (jn M n).getD i 0 ∧ (jn M n).getD i 0 ≤ 255 := rng_at (jn_rng' h)
theorem jB_parts {M : Nat → MT} {n : Nat} (h : jB M n = true) : n ≤ 40 ∧ okN M n = true := by
  simp only [jB, Bool.and_eq_true, decide_eq_true_eq] at h
  exact h
theorem kn_help {s0 pl cut X k i : Nat} (h : X ≤ cut → i < k) (e : X = s0 + 1 + pl) : Hid ((s0 : Int) + (1 + (pl : Int)) ≤ (cut : Int) → i < k) := fun q => h (by omega)
theorem wr_help {s0 pl X l n : Nat} (e : X = s0 + 1 + pl) (h1 : X ≤ l) (h2 : l ≤ 110 * n) (h3 : n ≤ 40) : wrap64 ((s0 : Int) + (1 + (pl : Int))) = (s0 : Int) + (1 + (pl : Int)) := by unfold wrap64; omega
theorem meas {n i : Nat} (h : i < n) : n - (intOf (Value.int .i64 ((i : Int) + 1))).toNat < n - (intOf (Value.int .i64 (i : Int))).toNat := by simp only [intOf]; omega
theorem sum_help {s0 pl X : Nat} (e : X = s0 + 1 + pl) : Value.int .i64 ((s0 : Int) + (1 + (pl : Int))) = Value.int .i64 (X : Int) := by subst e; congr 1; omega
theorem idx_help (i : Nat) : Value.int .i64 ((i : Int) + 1) = Value.int .i64 ((i + 1 : Nat) : Int) := by congr 1
set_option maxRecDepth 100000 in
set_option maxHeartbeats 32000000 in
theorem walkStream (a : Option Addr) (n c : Nat) (w : World) (hcode : CodeB w w.heap.size a n) :
    Calls Try.prog 5 #[.slice a n c] w fun e w' => e = .returned (.bool true) ∧ Below w.heap.size w w' := by
  by_cases hbig : (1048576 : Int) < (n : Int)
  · go_enter Try.func5, Try.ntmps5
    go_wp2_with (go_at_call 8; refine (big_any _ _ _ _).mono ?_; rintro e w' ⟨rfl, rfl⟩)
    go_ret
    exact ⟨rfl, Below.refl _ _⟩
  have hd : decide ((1048576 : Int) < (n : Int)) = false := by simp; omega
  have hn : n ≤ 1048576 := by omega
  have HC : Hid (CodeB w w.heap.size a n) := hcode
  clear hcode hbig
  go_enter Try.func5, Try.ntmps5
  go_wp2_with (go_at_call 8; refine (big_any _ _ _ _).mono ?_; rintro e w' ⟨rfl, rfl⟩)
  refine (DrawJoinMsgs_any a n c _ hn HC.out).mono ?_
  rintro e w1 ⟨v, A, rfl, hA, hSm, O, B⟩
  obtain ⟨al, cl, rfl, hlc, hlm, SL⟩ := ownM_src O
  have HSZ : Hid (∀ i, i < A.length → ((EL A i).2.2.2.2.2.2.2).size ≤ 1048576) := small_at hSm
  have CI := implJoinMsgs_any al A.length cl (EL A) w1 (by unfold maxLen; omega) SL HSZ.out
  have CS := fun (w' : World) (h : SrcC w' al (A.length * 8) (MFMsg (EL A))) => specJoinMsgs_any al A.length cl (EL A) w' (by unfold maxLen; omega) h HSZ.out
  have HSL : Hid (SrcC w1 al (A.length * 8) (MFMsg (EL A))) := SL
  clear O SL hSm hd
  go_wp2_with fail
  refine CI.mono ?_
  rintro e w2 ⟨vb, rfl, O2, hb⟩
  have B2 := B.trans (hb.mono B.size)
  have HSL2 : Hid (SrcC w2 al (A.length * 8) (MFMsg (EL A))) := HSL.out.below hb
  clear hb B CI HSL
  go_wp2_with fail
  refine (CS _ HSL2.out).mono ?_
  rintro e w3 ⟨vs, rfl, O3, hb⟩
  have B3 := B2.trans (hb.mono B2.size)
  have HSL3 : Hid (SrcC w3 al (A.length * 8) (MFMsg (EL A))) := HSL2.out.below hb
  replace O2 := ownB_below O2 hb
  clear hb B2 HSL2 CS O3
  cases hj : jB (EL A) A.length
  · rw [jR_no hj] at O2
    obtain ⟨ab, cb, rfl, -, -, -⟩ := ownB_src (L := []) O2
    go_wp2_with fail
    go_ret
    exact ⟨rfl, B3⟩
  · rw [jR_ok hj] at O2
    obtain ⟨hN40, hok⟩ := jB_parts hj
    have hLl := jn_len hok
    have HUP : Hid (∀ i, i < A.length → (jn (EL A) (i + 1)).length = (jn (EL A) i).length + 1 + (pkL (EL A i)).length) := fun i hi => jn_up hok i hi
    have HMONO : Hid (∀ i j, i ≤ j → j ≤ A.length → (jn (EL A) i).length ≤ (jn (EL A) j).length) := fun i j h1 h2 => jn_mono hok h1 h2
    have HONE : Hid (∀ i, i < A.length → jB (fun j => EL A (i + j)) 1 = true ∧ (jR (fun j => EL A (i + j)) 1).length = 1 + (pkL (EL A i)).length) := fun i hi => jn_one (M := EL A) (okN_at hok i hi)
    have HCUT : Hid (∀ cut, cut ≤ (jn (EL A) A.length).length → ∃ k q, k ≤ A.length ∧ (jn (EL A) k).length ≤ cut ∧ (k < A.length → cut < (jn (EL A) (k + 1)).length) ∧ (cut = (jn (EL A) A.length).length → q = 0 ∧ k = A.length) ∧ spl (fun i => (jn (EL A) A.length).getD i 0) cut 40 0 = (A.take k, (jn (EL A) k).length, q)) := fun cut hc => by
      obtain ⟨k, q, h1, h2, h3, h4, h5, h6⟩ := spl_cut hok hN40 hc A.length 0 40 (by omega) (by simp [jn]) (by omega)
      refine ⟨k, q, h2, h3, h4, h5, ?_⟩
      rw [show (jn (EL A) 0).length = 0 from rfl] at h6
      rw [h6, show (List.range' 0 (k - 0)).map (EL A) = _ from range_A A (k - 0) 0 (by omega)]
      simp
    have HRG : Hid (∀ i, i < (jn (EL A) A.length).length → 0 ≤ (jn (EL A) A.length).getD i 0 ∧ (jn (EL A) A.length).getD i 0 ≤ 255) := jn_rng hok
    have HL0 : Hid ((jn (EL A) A.length).length = 0 → A.length = 0) := fun h => by
      by_cases e : A.length = 0
      · exact e
      · have := HUP.out 0 (by omega)
        rw [Nat.zero_add] at this
        have := HMONO.out 1 A.length (by omega) (Nat.le_refl _)
        omega
    generalize hL : jn (EL A) A.length = L at *
    rcases O2.2 with ⟨rfl, h0⟩ | ⟨g, cb, cur, rfl, -⟩
    · have hA0 := HL0.out h0
      have hAe : A = [] := List.eq_nil_of_length_eq_zero hA0
      have C1 := fun (w' : World) => implSplitMsgs_any none 0 0 (fun i => L.getD i 0) w' (by omega) (by omega) (by simp [maxLen]) (.inl rfl) (fun i hi => absurd hi (Nat.not_lt_zero _))
      rw [spl_end (by omega) 40] at C1
      simp only at C1
      clear HCUT HUP HMONO HONE HRG HL0 hL O2 hLl hok HSZ HSL3 hlc hlm
      subst hAe
      go_wp2_with fail
      refine (C1 _).mono ?_
      rintro e w4 ⟨v4, rfl, O4, hb⟩
      obtain ⟨a4, c4, rfl, -, -, -⟩ := ownM_src (A := []) O4
      have B4 := B3.trans (hb.mono B3.size)
      clear hb B3 O4
      go_wp2_with fail
      refine (at_any a n c 1 w.heap.size _ hn (by omega) (HC.out.below B4)).mono ?_
      rintro e w' ⟨y, rfl, y0, y1, rfl⟩
      have hy : (y * 11) % 1 = 0 := by omega
      have hy2 : Int.tmod (y * 11) 1 = 0 := by rw [Int.tmod_eq_emod_of_nonneg (by omega)]; exact hy
      go_wp2_with fail
      refine (C1 _).mono ?_
      rintro e w5 ⟨v5, rfl, O5, hb⟩
      obtain ⟨a5, c5, rfl, -, -, -⟩ := ownM_src (A := []) O5
      have B5 := B4.trans (hb.mono B4.size)
      clear hb B4 O5
      go_wp2_with fail
      go_loopw [15, 16] (fun s i wr => i = .int .i64 0 ∧ w5 = wr) (fun _ i _ => 0)
      case atStart => exact ⟨rfl, by first | rfl | trivial⟩
      case round =>
        obtain ⟨rfl, rfl⟩ := hrel
        go_wp2_with fail
        go_ret
        exact ⟨rfl, B5⟩
    · obtain ⟨ag, cg, eg, hcg, hcgm, SG⟩ := ownB_src O2
      simp at eg
      obtain ⟨rfl, rfl⟩ := eg
      obtain ⟨k0, q0, -, -, -, h5, h6⟩ := HCUT.out L.length (Nat.le_refl _)
      obtain ⟨rfl, rfl⟩ := h5 rfl
      rw [hL, List.take_length] at h6
      have C1 := implSplitMsgs_any (some ⟨g, 0, none⟩) L.length cb (fun i => L.getD i 0) w3 (by omega) hcg hcgm SG HRG.out
      rw [h6] at C1
      simp only at C1
      have HSG : Hid (SrcB w3 (some ⟨g, 0, none⟩) L.length fun i => L.getD i 0) := SG
      have HLN : Hid ((jn (EL A) A.length).length = L.length) := by rw [Hid, hL]
      clear SG O2 h5 h6 hL HL0
      go_wp2_with fail
      refine C1.mono ?_
      rintro e w4 ⟨vk, rfl, OK4, hb⟩
      obtain ⟨ak, ck, rfl, -, -, SK⟩ := ownM_src OK4
      have B4 := B3.trans (hb.mono B3.size)
      have HSL4 : Hid (SrcC w4 al (A.length * 8) (MFMsg (EL A))) := HSL3.out.below hb
      have HSG4 : Hid (SrcB w4 (some ⟨g, 0, none⟩) L.length fun i => L.getD i 0) := HSG.out.below hb
      have HSK4 : Hid (SrcC w4 ak (A.length * 8) (MFMsg (EL A))) := SK
      clear hb B3 HSL3 HSG OK4 SK C1
      go_wp2_with fail
      refine (at_any a n c 1 w.heap.size _ hn (by omega) (HC.out.below B4)).mono ?_
      rintro e w' ⟨y, rfl, y0, y1, rfl⟩
      have hne : ((L.length : Int) + 1 == 0) = false := by rw [beq_eq_false_iff_ne]; omega
      have I0 := Int.emod_nonneg (y * 11) (b := (L.length : Int) + 1) (by omega)
      have I1 := Int.emod_lt_of_pos (y * 11) (b := (L.length : Int) + 1) (by omega)
      go_upto_region 14 with fail
      generalize (y * 11) % ((L.length : Int) + 1) = CU at *
      obtain ⟨cut, rfl⟩ := Int.eq_ofNat_of_zero_le I0
      have hcut : cut ≤ L.length := by omega
      have hsb : 0 ≤ (cut : Int) ∧ (cut : Int) ≤ (cb : Int) := ⟨by omega, by omega⟩
      obtain ⟨k, q, hk, hkl, hkn, -, h6⟩ := HCUT.out cut hcut
      have C2 := implSplitMsgs_any (some ⟨g, 0, none⟩) cut cb (fun i => L.getD i 0) w4 (by omega) (by omega) hcgm (by
        rcases HSG4.out with q | ⟨b', o', q1, q2⟩
        · exact .inl (by omega)
        · exact .inr ⟨b', o', q1, q2.1, fun i hi => q2.2 i (by omega)⟩) (fun i hi => HRG.out i (by omega))
      rw [h6] at C2
      simp only at C2
      have hkk : (A.take k).length = k := by rw [List.length_take]; omega
      clear I0 I1 h6 HCUT HSG4 HRG
      go_wp2_with fail
      refine C2.mono ?_
      rintro e w5 ⟨vt, rfl, OT, hb⟩
      obtain ⟨as', cs', rfl, -, -, ST⟩ := ownM_src OT
      rw [hkk] at ST
      rw [hkk]
      have B5 := B4.trans (hb.mono B4.size)
      have HSL5 : Hid (SrcC w5 al (A.length * 8) (MFMsg (EL A))) := HSL4.out.below hb
      have HSK5 : Hid (SrcC w5 ak (A.length * 8) (MFMsg (EL A))) := HSK4.out.below hb
      have HST5 : Hid (SrcC w5 as' (k * 8) (MFMsg (EL (A.take k)))) := ST
      have hkl' : ¬ (cut : Int) < ((jn (EL A) k).length : Int) := by omega
      have hk' : ¬ (A.length : Int) < (k : Int) := by omega
      clear hb B4 HSL4 HSK4 OT ST C2 hkk
      have HKN : Hid (∀ i, i < A.length → (jn (EL A) (i + 1)).length ≤ cut → i < k) := fun i hi hle => by
        by_cases e : i < k
        · exact e
        · have a1 := hkn (by omega)
          have a2 := HMONO.out (k + 1) (i + 1) (by omega) (by omega)
          omega
      have HBD : Hid (∀ i, i < A.length → (jn (EL A) (i + 1)).length ≤ L.length) := fun i hi => Nat.le_trans (HMONO.out (i + 1) A.length (by omega) (Nat.le_refl _)) (Nat.le_of_eq HLN.out)
      clear hkn HMONO
      generalize (jn (EL A) k).length = Lk at *
      go_wp2_with fail
      go_loopw [15, 16] (fun s i wr => ∃ j : Nat, j ≤ A.length ∧ i = .int .i64 j ∧ s = .int .i64 ((jn (EL A) j).length : Int) ∧ Below w5.heap.size w5 wr) (fun _ i _ => A.length - (intOf i).toNat)
      case atStart => exact ⟨0, Nat.zero_le _, rfl, rfl, Below.refl _ _⟩
      case round =>
        obtain ⟨i, hi, rfl, rfl, hB⟩ := hrel
        by_cases hlt : i < A.length
        · obtain ⟨bl, ol, hal, hbl⟩ : ∃ b o, al = some ⟨b, o, none⟩ ∧ Cs w5 b o (A.length * 8) (MFMsg (EL A)) := by
            rcases HSL5.out with q | q
            · omega
            · exact q
          subst hal
          have HBL : Hid (Cs w5 bl ol (A.length * 8) (MFMsg (EL A))) := hbl
          have bl1 := hbl.1
          clear hbl
          obtain ⟨bk, ok, hak, hbk⟩ : ∃ b o, ak = some ⟨b, o, none⟩ ∧ Cs w5 b o (A.length * 8) (MFMsg (EL A)) := by
            rcases HSK5.out with q | q
            · omega
            · exact q
          subst hak
          obtain ⟨x0, x1, x2, x3, x4, x5, x6, x7, hM⟩ := tupMsg (EL A) i
          obtain ⟨c0, c1, c2, c3, c4, c5, c6, c7⟩ := (hbk.below hB hbk.1).elMsg hlt hM
          obtain ⟨d0, d1, d2, d3, d4, d5, d6, d7⟩ := (HBL.out.below hB bl1).elMsg hlt hM
          have hbk1 : bk < wr.heap.size := Nat.lt_of_lt_of_le hbk.1 hB.size
          have hbl1 : bl < wr.heap.size := Nat.lt_of_lt_of_le bl1 hB.size
          have hone := HONE.out i hlt
          have hup := HUP.out i hlt
          have hkn2 := HKN.out i hlt
          have hbd := HBD.out i hlt
          have hli : (i : Int) < (A.length : Int) := by omega
          have hb1 : 0 ≤ (i : Int) + 1 ∧ (i : Int) + 1 ≤ (cl : Int) := ⟨by omega, by omega⟩
          have hb3 : 0 ≤ (i : Int) ∧ (i : Int) ≤ (i : Int) + 1 := ⟨by omega, by omega⟩
          have htn : ((i : Int) + 1).toNat = i + 1 := by omega
          have hxn : i ≤ i + 1 := by omega
          have hsub : i + 1 - i = 1 := by omega
          have hce : (cl = i) = False := by simp; omega
          have hMS : ∀ hik : i < k, EL (A.take k) i = (x0, x1, x2, x3, x4, x5, x6, x7) := fun hik => (EL_take hik).trans hM
          clear hbk hM
          generalize (pkL (EL A i)).length = pl at *
          generalize (jn (EL A) i).length = s0 at *
          have hwr : wrap64 ((s0 : Int) + (1 + (pl : Int))) = (s0 : Int) + (1 + (pl : Int)) := wr_help hup hbd hLl hN40
          have hknS := kn_help hkn2 hup
          have HU : Hid ((jn (EL A) (i + 1)).length = s0 + 1 + pl) := hup
          clear hup hbd hkn2
          by_cases hik : i < k
          · have hiki : (i : Int) < (k : Int) := by omega
            have hkii : ¬ (k : Int) ≤ (i : Int) := by omega
            have hkin : (k ≤ i) = False := by simp; omega
            obtain ⟨bs, os, has, hbs⟩ : ∃ b o, as' = some ⟨b, o, none⟩ ∧ Cs w5 b o (k * 8) (MFMsg (EL (A.take k))) := by
              rcases HST5.out with q | q
              · omega
              · exact q
            subst has
            obtain ⟨e0, e1, e2, e3, e4, e5, e6, e7⟩ := (hbs.below hB hbs.1).elMsg hik (hMS hik)
            have hbs1 : bs < wr.heap.size := Nat.lt_of_lt_of_le hbs.1 hB.size
            clear hbs hMS
            by_cases hle : (s0 : Int) + (1 + (pl : Int)) ≤ (cut : Int)
            · skip
              go_wp2_with fail
              refine wp_region_held_drew (S := (fun w' => w'.cell? ⟨bk, ok + i * 8, none⟩ = some (.int .i64 x0) ∧ w'.cell? ⟨bk, ok + i * 8 + 1, none⟩ = some (.int .i64 x1) ∧ w'.cell? ⟨bk, ok + i * 8 + 2, none⟩ = some (.int .i64 x2) ∧ w'.cell? ⟨bk, ok + i * 8 + 3, none⟩ = some (.int .i64 x3) ∧ w'.cell? ⟨bk, ok + i * 8 + 4, none⟩ = some (.int .i64 x4) ∧ w'.cell? ⟨bk, ok + i * 8 + 5, none⟩ = some (.int .i64 x5) ∧ w'.cell? ⟨bk, ok + i * 8 + 6, none⟩ = some (.int .i64 x6) ∧ w'.cell? ⟨bk, ok + i * 8 + 7, none⟩ = some (.string x7) ∧ w'.cell? ⟨bl, ol + i * 8, none⟩ = some (.int .i64 x0) ∧ w'.cell? ⟨bl, ol + i * 8 + 1, none⟩ = some (.int .i64 x1) ∧ w'.cell? ⟨bl, ol + i * 8 + 2, none⟩ = some (.int .i64 x2) ∧ w'.cell? ⟨bl, ol + i * 8 + 3, none⟩ = some (.int .i64 x3) ∧ w'.cell? ⟨bl, ol + i * 8 + 4, none⟩ = some (.int .i64 x4) ∧ w'.cell? ⟨bl, ol + i * 8 + 5, none⟩ = some (.int .i64 x5) ∧ w'.cell? ⟨bl, ol + i * 8 + 6, none⟩ = some (.int .i64 x6) ∧ w'.cell? ⟨bl, ol + i * 8 + 7, none⟩ = some (.string x7) ∧ w'.cell? ⟨bs, os + i * 8, none⟩ = some (.int .i64 x0) ∧ w'.cell? ⟨bs, os + i * 8 + 1, none⟩ = some (.int .i64 x1) ∧ w'.cell? ⟨bs, os + i * 8 + 2, none⟩ = some (.int .i64 x2) ∧ w'.cell? ⟨bs, os + i * 8 + 3, none⟩ = some (.int .i64 x3) ∧ w'.cell? ⟨bs, os + i * 8 + 4, none⟩ = some (.int .i64 x4) ∧ w'.cell? ⟨bs, os + i * 8 + 5, none⟩ = some (.int .i64 x5) ∧ w'.cell? ⟨bs, os + i * 8 + 6, none⟩ = some (.int .i64 x6) ∧ w'.cell? ⟨bs, os + i * 8 + 7, none⟩ = some (.string x7))) (by kernel_rfl) ?_ (fun hHeld => ?_)
              · first | exact ⟨c0, c1, c2, c3, c4, c5, c6, c7, d0, d1, d2, d3, d4, d5, d6, d7, e0, e1, e2, e3, e4, e5, e6, e7⟩ | (simp (maxDischargeDepth := 6) [go_sem, *]; done)
              refine wpAnyH_take (i := 0) (v := ?_) (by rw [List.getElem?_toArray]; rfl) (by kernel_rfl) (by kernel_rfl) (by kernel_rfl) (by intro _ _ _ h; exact h) (Or.inl ⟨by rfl, ?_⟩) (by assumption) ?_
              rotate_left
              · (intro w hSw; (try dsimp only at hSw); go_simp; all_goals with_reducible rfl)
              (try simp only [Act.put, List.setIfInBounds_toArray, List.set_cons_zero, List.set_cons_succ])
              refine wpAnyH_take (i := 1) (v := ?_) (by rw [List.getElem?_toArray]; rfl) (by kernel_rfl) (by kernel_rfl) (by kernel_rfl) (by intro _ _ _ h; exact h) (Or.inl ⟨by rfl, ?_⟩) (by assumption) ?_
              rotate_left
              · (intro w hSw; (try dsimp only at hSw); go_simp; all_goals with_reducible rfl)
              (try simp only [Act.put, List.setIfInBounds_toArray, List.set_cons_zero, List.set_cons_succ])
              refine wpAnyH_take (i := 2) (v := ?_) (by rw [List.getElem?_toArray]; rfl) (by kernel_rfl) (by kernel_rfl) (by kernel_rfl) (by intro _ _ _ h; exact h) (Or.inl ⟨by rfl, ?_⟩) (by assumption) ?_
              rotate_left
              · (intro w hSw; (try dsimp only at hSw); go_simp; all_goals with_reducible rfl)
              (try simp only [Act.put, List.setIfInBounds_toArray, List.set_cons_zero, List.set_cons_succ])
              refine wpAnyH_take (i := 3) (v := ?_) (by rw [List.getElem?_toArray]; rfl) (by kernel_rfl) (by kernel_rfl) (by kernel_rfl) (by intro _ _ _ h; exact h) (Or.inl ⟨by rfl, ?_⟩) (by assumption) ?_
              rotate_left
              · (intro w hSw; (try dsimp only at hSw); go_simp; all_goals with_reducible rfl)
              (try simp only [Act.put, List.setIfInBounds_toArray, List.set_cons_zero, List.set_cons_succ])
              refine wpAnyH_take (i := 4) (v := ?_) (by rw [List.getElem?_toArray]; rfl) (by kernel_rfl) (by kernel_rfl) (by kernel_rfl) (by intro _ _ _ h; exact h) (Or.inl ⟨by rfl, ?_⟩) (by assumption) ?_
              rotate_left
              · (intro w hSw; (try dsimp only at hSw); go_simp; all_goals with_reducible rfl)
              (try simp only [Act.put, List.setIfInBounds_toArray, List.set_cons_zero, List.set_cons_succ])
              refine wpAnyH_take (i := 5) (v := ?_) (by rw [List.getElem?_toArray]; rfl) (by kernel_rfl) (by kernel_rfl) (by kernel_rfl) (by intro _ _ _ h; exact h) (Or.inl ⟨by rfl, ?_⟩) (by assumption) ?_
              rotate_left
              · (intro w hSw; (try dsimp only at hSw); go_simp; all_goals with_reducible rfl)
              (try simp only [Act.put, List.setIfInBounds_toArray, List.set_cons_zero, List.set_cons_succ])
              refine wpAnyH_take (i := 6) (v := ?_) (by rw [List.getElem?_toArray]; rfl) (by kernel_rfl) (by kernel_rfl) (by kernel_rfl) (by intro _ _ _ h; exact h) (Or.inl ⟨by rfl, ?_⟩) (by assumption) ?_
              rotate_left
              · (intro w hSw; (try dsimp only at hSw); go_simp; all_goals with_reducible rfl)
              (try simp only [Act.put, List.setIfInBounds_toArray, List.set_cons_zero, List.set_cons_succ])
              refine wpAnyH_take (i := 7) (v := ?_) (by rw [List.getElem?_toArray]; rfl) (by kernel_rfl) (by kernel_rfl) (by kernel_rfl) (by intro _ _ _ h; exact h) (Or.inl ⟨by rfl, ?_⟩) (by assumption) ?_
              rotate_left
              · (intro w hSw; (try dsimp only at hSw); go_simp; all_goals with_reducible rfl)
              (try simp only [Act.put, List.setIfInBounds_toArray, List.set_cons_zero, List.set_cons_succ])
              refine wpAnyH_take (i := 8) (v := ?_) (by rw [List.getElem?_toArray]; rfl) (by kernel_rfl) (by kernel_rfl) (by kernel_rfl) (by intro _ _ _ h; exact h) (Or.inl ⟨by rfl, ?_⟩) (by assumption) ?_
              rotate_left
              · (intro w hSw; (try dsimp only at hSw); go_simp; all_goals with_reducible rfl)
              (try simp only [Act.put, List.setIfInBounds_toArray, List.set_cons_zero, List.set_cons_succ])
              refine wpAnyH_take (i := 9) (v := ?_) (by rw [List.getElem?_toArray]; rfl) (by kernel_rfl) (by kernel_rfl) (by kernel_rfl) (by intro _ _ _ h; exact h) (Or.inl ⟨by rfl, ?_⟩) (by assumption) ?_
              rotate_left
              · (intro w hSw; (try dsimp only at hSw); go_simp; all_goals with_reducible rfl)
              (try simp only [Act.put, List.setIfInBounds_toArray, List.set_cons_zero, List.set_cons_succ])
              refine wpAnyH_take (i := 10) (v := ?_) (by rw [List.getElem?_toArray]; rfl) (by kernel_rfl) (by kernel_rfl) (by kernel_rfl) (by intro _ _ _ h; exact h) (Or.inl ⟨by rfl, ?_⟩) (by assumption) ?_
              rotate_left
              · (intro w hSw; (try dsimp only at hSw); go_simp; all_goals with_reducible rfl)
              (try simp only [Act.put, List.setIfInBounds_toArray, List.set_cons_zero, List.set_cons_succ])
              refine wpAnyH_take (i := 11) (v := ?_) (by rw [List.getElem?_toArray]; rfl) (by kernel_rfl) (by kernel_rfl) (by kernel_rfl) (by intro _ _ _ h; exact h) (Or.inl ⟨by rfl, ?_⟩) (by assumption) ?_
              rotate_left
              · (intro w hSw; (try dsimp only at hSw); go_simp; all_goals with_reducible rfl)
              (try simp only [Act.put, List.setIfInBounds_toArray, List.set_cons_zero, List.set_cons_succ])
              refine wpAnyH_take (i := 12) (v := ?_) (by rw [List.getElem?_toArray]; rfl) (by kernel_rfl) (by kernel_rfl) (by kernel_rfl) (by intro _ _ _ h; exact h) (Or.inl ⟨by rfl, ?_⟩) (by assumption) ?_
              rotate_left
              · (intro w hSw; (try dsimp only at hSw); go_simp; all_goals with_reducible rfl)
              (try simp only [Act.put, List.setIfInBounds_toArray, List.set_cons_zero, List.set_cons_succ])
              refine wpAnyH_take (i := 13) (v := ?_) (by rw [List.getElem?_toArray]; rfl) (by kernel_rfl) (by kernel_rfl) (by kernel_rfl) (by intro _ _ _ h; exact h) (Or.inl ⟨by rfl, ?_⟩) (by assumption) ?_
              rotate_left
              · (intro w hSw; (try dsimp only at hSw); go_simp; all_goals with_reducible rfl)
              (try simp only [Act.put, List.setIfInBounds_toArray, List.set_cons_zero, List.set_cons_succ])
              refine wpAnyH_take (i := 14) (v := ?_) (by rw [List.getElem?_toArray]; rfl) (by kernel_rfl) (by kernel_rfl) (by kernel_rfl) (by intro _ _ _ h; exact h) (Or.inl ⟨by rfl, ?_⟩) (by assumption) ?_
              rotate_left
              · (intro w hSw; (try dsimp only at hSw); go_simp; all_goals with_reducible rfl)
              (try simp only [Act.put, List.setIfInBounds_toArray, List.set_cons_zero, List.set_cons_succ])
              refine wpAnyH_take (i := 15) (v := ?_) (by rw [List.getElem?_toArray]; rfl) (by kernel_rfl) (by kernel_rfl) (by kernel_rfl) (by intro _ _ _ h; exact h) (Or.inl ⟨by rfl, ?_⟩) (by assumption) ?_
              rotate_left
              · (intro w hSw; (try dsimp only at hSw); go_simp; all_goals with_reducible rfl)
              (try simp only [Act.put, List.setIfInBounds_toArray, List.set_cons_zero, List.set_cons_succ])
              refine wpAnyH_take (i := 16) (v := ?_) (by rw [List.getElem?_toArray]; rfl) (by kernel_rfl) (by kernel_rfl) (by kernel_rfl) (by intro _ _ _ h; exact h) (Or.inl ⟨by rfl, ?_⟩) (by assumption) ?_
              rotate_left
              · (intro w hSw; (try dsimp only at hSw); go_simp; all_goals with_reducible rfl)
              (try simp only [Act.put, List.setIfInBounds_toArray, List.set_cons_zero, List.set_cons_succ])
              refine wpAnyH_take (i := 17) (v := ?_) (by rw [List.getElem?_toArray]; rfl) (by kernel_rfl) (by kernel_rfl) (by kernel_rfl) (by intro _ _ _ h; exact h) (Or.inl ⟨by rfl, ?_⟩) (by assumption) ?_
              rotate_left
              · (intro w hSw; (try dsimp only at hSw); go_simp; all_goals with_reducible rfl)
              (try simp only [Act.put, List.setIfInBounds_toArray, List.set_cons_zero, List.set_cons_succ])
              refine wpAnyH_take (i := 18) (v := ?_) (by rw [List.getElem?_toArray]; rfl) (by kernel_rfl) (by kernel_rfl) (by kernel_rfl) (by intro _ _ _ h; exact h) (Or.inl ⟨by rfl, ?_⟩) (by assumption) ?_
              rotate_left
              · (intro w hSw; (try dsimp only at hSw); go_simp; all_goals with_reducible rfl)
              (try simp only [Act.put, List.setIfInBounds_toArray, List.set_cons_zero, List.set_cons_succ])
              refine wpAnyH_take (i := 19) (v := ?_) (by rw [List.getElem?_toArray]; rfl) (by kernel_rfl) (by kernel_rfl) (by kernel_rfl) (by intro _ _ _ h; exact h) (Or.inl ⟨by rfl, ?_⟩) (by assumption) ?_
              rotate_left
              · (intro w hSw; (try dsimp only at hSw); go_simp; all_goals with_reducible rfl)
              (try simp only [Act.put, List.setIfInBounds_toArray, List.set_cons_zero, List.set_cons_succ])
              refine wpAnyH_take (i := 20) (v := ?_) (by rw [List.getElem?_toArray]; rfl) (by kernel_rfl) (by kernel_rfl) (by kernel_rfl) (by intro _ _ _ h; exact h) (Or.inl ⟨by rfl, ?_⟩) (by assumption) ?_
              rotate_left
              · (intro w hSw; (try dsimp only at hSw); go_simp; all_goals with_reducible rfl)
              (try simp only [Act.put, List.setIfInBounds_toArray, List.set_cons_zero, List.set_cons_succ])
              refine wpAnyH_take (i := 21) (v := ?_) (by rw [List.getElem?_toArray]; rfl) (by kernel_rfl) (by kernel_rfl) (by kernel_rfl) (by intro _ _ _ h; exact h) (Or.inl ⟨by rfl, ?_⟩) (by assumption) ?_
              rotate_left
              · (intro w hSw; (try dsimp only at hSw); go_simp; all_goals with_reducible rfl)
              (try simp only [Act.put, List.setIfInBounds_toArray, List.set_cons_zero, List.set_cons_succ])
              refine wpAnyH_take (i := 22) (v := ?_) (by rw [List.getElem?_toArray]; rfl) (by kernel_rfl) (by kernel_rfl) (by kernel_rfl) (by intro _ _ _ h; exact h) (Or.inl ⟨by rfl, ?_⟩) (by assumption) ?_
              rotate_left
              · (intro w hSw; (try dsimp only at hSw); go_simp; all_goals with_reducible rfl)
              (try simp only [Act.put, List.setIfInBounds_toArray, List.set_cons_zero, List.set_cons_succ])
              refine wpAnyH_take (i := 23) (v := ?_) (by rw [List.getElem?_toArray]; rfl) (by kernel_rfl) (by kernel_rfl) (by kernel_rfl) (by intro _ _ _ h; exact h) (Or.inl ⟨by rfl, ?_⟩) (by assumption) ?_
              rotate_left
              · (intro w hSw; (try dsimp only at hSw); go_simp; all_goals with_reducible rfl)
              (try simp only [Act.put, List.setIfInBounds_toArray, List.set_cons_zero, List.set_cons_succ])
              refine wpAnyH_take (i := 24) (v := ?_) (by rw [List.getElem?_toArray]; rfl) (by kernel_rfl) (by kernel_rfl) (by kernel_rfl) (by intro _ _ _ h; exact h) (Or.inl ⟨by rfl, ?_⟩) (by assumption) ?_
              rotate_left
              · (intro w hSw; (try dsimp only at hSw); go_simp; all_goals with_reducible rfl)
              (try simp only [Act.put, List.setIfInBounds_toArray, List.set_cons_zero, List.set_cons_succ])
              refine wpAnyH_take (i := 25) (v := ?_) (by rw [List.getElem?_toArray]; rfl) (by kernel_rfl) (by kernel_rfl) (by kernel_rfl) (by intro _ _ _ h; exact h) (Or.inl ⟨by rfl, ?_⟩) (by assumption) ?_
              rotate_left
              · (intro w hSw; (try dsimp only at hSw); go_simp; all_goals with_reducible rfl)
              (try simp only [Act.put, List.setIfInBounds_toArray, List.set_cons_zero, List.set_cons_succ])
              refine wpAnyH_done (by kernel_rfl) ?_ _
              clear c0 d0 c1 d1 c2 d2 c3 d3 c4 d4 c5 d5 c6 d6 c7 d7
              clear e0 e1 e2 e3 e4 e5 e6 e7
              have BD := Below.drew hB
              have SD := (HBL.out.below BD bl1).elem8 hlt
              have CJ := implJoinMsgs_any (some ⟨bl, ol + i * 8, none⟩) 1 (cl - i) (fun j => EL A (i + j)) wr.drew (by unfold maxLen; omega) (.inr ⟨bl, _, rfl, SD⟩) (fun j hj => by (obtain rfl : j = 0 := by omega); exact HSZ.out i hlt)
              rw [hone.1] at CJ
              clear SD hHeld
              go_wp2_with fail
              refine CJ.mono ?_
              rintro e w5 ⟨v5, rfl, O5, hb⟩
              have hB5 := BD.trans (hb.mono BD.size)
              obtain ⟨a5, c5, rfl, -, -, -⟩ := ownB_src O5
              rw [hone.2]
              clear CJ O5 hb BD
              go_wp2_with fail
              refine ⟨?_, meas hlt⟩
              simp [hwr, hB5]
              exact ⟨_, _, _, ⟨i + 1, hlt, rfl, rfl⟩, rfl, sum_help HU.out, idx_help i, hkl, hk, hkl, hk⟩
            · skip
              go_wp2_with fail
              refine wp_region_held_drew (S := (fun w' => w'.cell? ⟨bk, ok + i * 8, none⟩ = some (.int .i64 x0) ∧ w'.cell? ⟨bk, ok + i * 8 + 1, none⟩ = some (.int .i64 x1) ∧ w'.cell? ⟨bk, ok + i * 8 + 2, none⟩ = some (.int .i64 x2) ∧ w'.cell? ⟨bk, ok + i * 8 + 3, none⟩ = some (.int .i64 x3) ∧ w'.cell? ⟨bk, ok + i * 8 + 4, none⟩ = some (.int .i64 x4) ∧ w'.cell? ⟨bk, ok + i * 8 + 5, none⟩ = some (.int .i64 x5) ∧ w'.cell? ⟨bk, ok + i * 8 + 6, none⟩ = some (.int .i64 x6) ∧ w'.cell? ⟨bk, ok + i * 8 + 7, none⟩ = some (.string x7) ∧ w'.cell? ⟨bl, ol + i * 8, none⟩ = some (.int .i64 x0) ∧ w'.cell? ⟨bl, ol + i * 8 + 1, none⟩ = some (.int .i64 x1) ∧ w'.cell? ⟨bl, ol + i * 8 + 2, none⟩ = some (.int .i64 x2) ∧ w'.cell? ⟨bl, ol + i * 8 + 3, none⟩ = some (.int .i64 x3) ∧ w'.cell? ⟨bl, ol + i * 8 + 4, none⟩ = some (.int .i64 x4) ∧ w'.cell? ⟨bl, ol + i * 8 + 5, none⟩ = some (.int .i64 x5) ∧ w'.cell? ⟨bl, ol + i * 8 + 6, none⟩ = some (.int .i64 x6) ∧ w'.cell? ⟨bl, ol + i * 8 + 7, none⟩ = some (.string x7) ∧ w'.cell? ⟨bs, os + i * 8, none⟩ = some (.int .i64 x0) ∧ w'.cell? ⟨bs, os + i * 8 + 1, none⟩ = some (.int .i64 x1) ∧ w'.cell? ⟨bs, os + i * 8 + 2, none⟩ = some (.int .i64 x2) ∧ w'.cell? ⟨bs, os + i * 8 + 3, none⟩ = some (.int .i64 x3) ∧ w'.cell? ⟨bs, os + i * 8 + 4, none⟩ = some (.int .i64 x4) ∧ w'.cell? ⟨bs, os + i * 8 + 5, none⟩ = some (.int .i64 x5) ∧ w'.cell? ⟨bs, os + i * 8 + 6, none⟩ = some (.int .i64 x6) ∧ w'.cell? ⟨bs, os + i * 8 + 7, none⟩ = some (.string x7))) (by kernel_rfl) ?_ (fun hHeld => ?_)
              · first | exact ⟨c0, c1, c2, c3, c4, c5, c6, c7, d0, d1, d2, d3, d4, d5, d6, d7, e0, e1, e2, e3, e4, e5, e6, e7⟩ | (simp (maxDischargeDepth := 6) [go_sem, *]; done)
              refine wpAnyH_take (i := 0) (v := ?_) (by rw [List.getElem?_toArray]; rfl) (by kernel_rfl) (by kernel_rfl) (by kernel_rfl) (by intro _ _ _ h; exact h) (Or.inl ⟨by rfl, ?_⟩) (by assumption) ?_
              rotate_left
              · (intro w hSw; (try dsimp only at hSw); go_simp; all_goals with_reducible rfl)
              (try simp only [Act.put, List.setIfInBounds_toArray, List.set_cons_zero, List.set_cons_succ])
              refine wpAnyH_take (i := 1) (v := ?_) (by rw [List.getElem?_toArray]; rfl) (by kernel_rfl) (by kernel_rfl) (by kernel_rfl) (by intro _ _ _ h; exact h) (Or.inl ⟨by rfl, ?_⟩) (by assumption) ?_
              rotate_left
              · (intro w hSw; (try dsimp only at hSw); go_simp; all_goals with_reducible rfl)
              (try simp only [Act.put, List.setIfInBounds_toArray, List.set_cons_zero, List.set_cons_succ])
              refine wpAnyH_take (i := 2) (v := ?_) (by rw [List.getElem?_toArray]; rfl) (by kernel_rfl) (by kernel_rfl) (by kernel_rfl) (by intro _ _ _ h; exact h) (Or.inl ⟨by rfl, ?_⟩) (by assumption) ?_
              rotate_left
              · (intro w hSw; (try dsimp only at hSw); go_simp; all_goals with_reducible rfl)
              (try simp only [Act.put, List.setIfInBounds_toArray, List.set_cons_zero, List.set_cons_succ])
              refine wpAnyH_take (i := 3) (v := ?_) (by rw [List.getElem?_toArray]; rfl) (by kernel_rfl) (by kernel_rfl) (by kernel_rfl) (by intro _ _ _ h; exact h) (Or.inl ⟨by rfl, ?_⟩) (by assumption) ?_
              rotate_left
              · (intro w hSw; (try dsimp only at hSw); go_simp; all_goals with_reducible rfl)
              (try simp only [Act.put, List.setIfInBounds_toArray, List.set_cons_zero, List.set_cons_succ])
              refine wpAnyH_take (i := 4) (v := ?_) (by rw [List.getElem?_toArray]; rfl) (by kernel_rfl) (by kernel_rfl) (by kernel_rfl) (by intro _ _ _ h; exact h) (Or.inl ⟨by rfl, ?_⟩) (by assumption) ?_
              rotate_left
              · (intro w hSw; (try dsimp only at hSw); go_simp; all_goals with_reducible rfl)
              (try simp only [Act.put, List.setIfInBounds_toArray, List.set_cons_zero, List.set_cons_succ])
              refine wpAnyH_take (i := 5) (v := ?_) (by rw [List.getElem?_toArray]; rfl) (by kernel_rfl) (by kernel_rfl) (by kernel_rfl) (by intro _ _ _ h; exact h) (Or.inl ⟨by rfl, ?_⟩) (by assumption) ?_
              rotate_left
              · (intro w hSw; (try dsimp only at hSw); go_simp; all_goals with_reducible rfl)
              (try simp only [Act.put, List.setIfInBounds_toArray, List.set_cons_zero, List.set_cons_succ])
              refine wpAnyH_take (i := 6) (v := ?_) (by rw [List.getElem?_toArray]; rfl) (by kernel_rfl) (by kernel_rfl) (by kernel_rfl) (by intro _ _ _ h; exact h) (Or.inl ⟨by rfl, ?_⟩) (by assumption) ?_
              rotate_left
              · (intro w hSw; (try dsimp only at hSw); go_simp; all_goals with_reducible rfl)
              (try simp only [Act.put, List.setIfInBounds_toArray, List.set_cons_zero, List.set_cons_succ])
              refine wpAnyH_take (i := 7) (v := ?_) (by rw [List.getElem?_toArray]; rfl) (by kernel_rfl) (by kernel_rfl) (by kernel_rfl) (by intro _ _ _ h; exact h) (Or.inl ⟨by rfl, ?_⟩) (by assumption) ?_
              rotate_left
              · (intro w hSw; (try dsimp only at hSw); go_simp; all_goals with_reducible rfl)
              (try simp only [Act.put, List.setIfInBounds_toArray, List.set_cons_zero, List.set_cons_succ])
              refine wpAnyH_take (i := 8) (v := ?_) (by rw [List.getElem?_toArray]; rfl) (by kernel_rfl) (by kernel_rfl) (by kernel_rfl) (by intro _ _ _ h; exact h) (Or.inl ⟨by rfl, ?_⟩) (by assumption) ?_
              rotate_left
              · (intro w hSw; (try dsimp only at hSw); go_simp; all_goals with_reducible rfl)
              (try simp only [Act.put, List.setIfInBounds_toArray, List.set_cons_zero, List.set_cons_succ])
              refine wpAnyH_take (i := 9) (v := ?_) (by rw [List.getElem?_toArray]; rfl) (by kernel_rfl) (by kernel_rfl) (by kernel_rfl) (by intro _ _ _ h; exact h) (Or.inl ⟨by rfl, ?_⟩) (by assumption) ?_
              rotate_left
              · (intro w hSw; (try dsimp only at hSw); go_simp; all_goals with_reducible rfl)
              (try simp only [Act.put, List.setIfInBounds_toArray, List.set_cons_zero, List.set_cons_succ])
              refine wpAnyH_take (i := 10) (v := ?_) (by rw [List.getElem?_toArray]; rfl) (by kernel_rfl) (by kernel_rfl) (by kernel_rfl) (by intro _ _ _ h; exact h) (Or.inl ⟨by rfl, ?_⟩) (by assumption) ?_
              rotate_left
              · (intro w hSw; (try dsimp only at hSw); go_simp; all_goals with_reducible rfl)
              (try simp only [Act.put, List.setIfInBounds_toArray, List.set_cons_zero, List.set_cons_succ])
              refine wpAnyH_take (i := 11) (v := ?_) (by rw [List.getElem?_toArray]; rfl) (by kernel_rfl) (by kernel_rfl) (by kernel_rfl) (by intro _ _ _ h; exact h) (Or.inl ⟨by rfl, ?_⟩) (by assumption) ?_
              rotate_left
              · (intro w hSw; (try dsimp only at hSw); go_simp; all_goals with_reducible rfl)
              (try simp only [Act.put, List.setIfInBounds_toArray, List.set_cons_zero, List.set_cons_succ])
              refine wpAnyH_take (i := 12) (v := ?_) (by rw [List.getElem?_toArray]; rfl) (by kernel_rfl) (by kernel_rfl) (by kernel_rfl) (by intro _ _ _ h; exact h) (Or.inl ⟨by rfl, ?_⟩) (by assumption) ?_
              rotate_left
              · (intro w hSw; (try dsimp only at hSw); go_simp; all_goals with_reducible rfl)
              (try simp only [Act.put, List.setIfInBounds_toArray, List.set_cons_zero, List.set_cons_succ])
              refine wpAnyH_take (i := 13) (v := ?_) (by rw [List.getElem?_toArray]; rfl) (by kernel_rfl) (by kernel_rfl) (by kernel_rfl) (by intro _ _ _ h; exact h) (Or.inl ⟨by rfl, ?_⟩) (by assumption) ?_
              rotate_left
              · (intro w hSw; (try dsimp only at hSw); go_simp; all_goals with_reducible rfl)
              (try simp only [Act.put, List.setIfInBounds_toArray, List.set_cons_zero, List.set_cons_succ])
              refine wpAnyH_take (i := 14) (v := ?_) (by rw [List.getElem?_toArray]; rfl) (by kernel_rfl) (by kernel_rfl) (by kernel_rfl) (by intro _ _ _ h; exact h) (Or.inl ⟨by rfl, ?_⟩) (by assumption) ?_
              rotate_left
              · (intro w hSw; (try dsimp only at hSw); go_simp; all_goals with_reducible rfl)
              (try simp only [Act.put, List.setIfInBounds_toArray, List.set_cons_zero, List.set_cons_succ])
              refine wpAnyH_take (i := 15) (v := ?_) (by rw [List.getElem?_toArray]; rfl) (by kernel_rfl) (by kernel_rfl) (by kernel_rfl) (by intro _ _ _ h; exact h) (Or.inl ⟨by rfl, ?_⟩) (by assumption) ?_
              rotate_left
              · (intro w hSw; (try dsimp only at hSw); go_simp; all_goals with_reducible rfl)
              (try simp only [Act.put, List.setIfInBounds_toArray, List.set_cons_zero, List.set_cons_succ])
              refine wpAnyH_take (i := 16) (v := ?_) (by rw [List.getElem?_toArray]; rfl) (by kernel_rfl) (by kernel_rfl) (by kernel_rfl) (by intro _ _ _ h; exact h) (Or.inl ⟨by rfl, ?_⟩) (by assumption) ?_
              rotate_left
              · (intro w hSw; (try dsimp only at hSw); go_simp; all_goals with_reducible rfl)
              (try simp only [Act.put, List.setIfInBounds_toArray, List.set_cons_zero, List.set_cons_succ])
              refine wpAnyH_take (i := 17) (v := ?_) (by rw [List.getElem?_toArray]; rfl) (by kernel_rfl) (by kernel_rfl) (by kernel_rfl) (by intro _ _ _ h; exact h) (Or.inl ⟨by rfl, ?_⟩) (by assumption) ?_
              rotate_left
              · (intro w hSw; (try dsimp only at hSw); go_simp; all_goals with_reducible rfl)
              (try simp only [Act.put, List.setIfInBounds_toArray, List.set_cons_zero, List.set_cons_succ])
              refine wpAnyH_take (i := 18) (v := ?_) (by rw [List.getElem?_toArray]; rfl) (by kernel_rfl) (by kernel_rfl) (by kernel_rfl) (by intro _ _ _ h; exact h) (Or.inl ⟨by rfl, ?_⟩) (by assumption) ?_
              rotate_left
              · (intro w hSw; (try dsimp only at hSw); go_simp; all_goals with_reducible rfl)
              (try simp only [Act.put, List.setIfInBounds_toArray, List.set_cons_zero, List.set_cons_succ])
              refine wpAnyH_take (i := 19) (v := ?_) (by rw [List.getElem?_toArray]; rfl) (by kernel_rfl) (by kernel_rfl) (by kernel_rfl) (by intro _ _ _ h; exact h) (Or.inl ⟨by rfl, ?_⟩) (by assumption) ?_
              rotate_left
              · (intro w hSw; (try dsimp only at hSw); go_simp; all_goals with_reducible rfl)
              (try simp only [Act.put, List.setIfInBounds_toArray, List.set_cons_zero, List.set_cons_succ])
              refine wpAnyH_take (i := 20) (v := ?_) (by rw [List.getElem?_toArray]; rfl) (by kernel_rfl) (by kernel_rfl) (by kernel_rfl) (by intro _ _ _ h; exact h) (Or.inl ⟨by rfl, ?_⟩) (by assumption) ?_
              rotate_left
              · (intro w hSw; (try dsimp only at hSw); go_simp; all_goals with_reducible rfl)
              (try simp only [Act.put, List.setIfInBounds_toArray, List.set_cons_zero, List.set_cons_succ])
              refine wpAnyH_take (i := 21) (v := ?_) (by rw [List.getElem?_toArray]; rfl) (by kernel_rfl) (by kernel_rfl) (by kernel_rfl) (by intro _ _ _ h; exact h) (Or.inl ⟨by rfl, ?_⟩) (by assumption) ?_
              rotate_left
              · (intro w hSw; (try dsimp only at hSw); go_simp; all_goals with_reducible rfl)
              (try simp only [Act.put, List.setIfInBounds_toArray, List.set_cons_zero, List.set_cons_succ])
              refine wpAnyH_take (i := 22) (v := ?_) (by rw [List.getElem?_toArray]; rfl) (by kernel_rfl) (by kernel_rfl) (by kernel_rfl) (by intro _ _ _ h; exact h) (Or.inl ⟨by rfl, ?_⟩) (by assumption) ?_
              rotate_left
              · (intro w hSw; (try dsimp only at hSw); go_simp; all_goals with_reducible rfl)
              (try simp only [Act.put, List.setIfInBounds_toArray, List.set_cons_zero, List.set_cons_succ])
              refine wpAnyH_take (i := 23) (v := ?_) (by rw [List.getElem?_toArray]; rfl) (by kernel_rfl) (by kernel_rfl) (by kernel_rfl) (by intro _ _ _ h; exact h) (Or.inl ⟨by rfl, ?_⟩) (by assumption) ?_
              rotate_left
              · (intro w hSw; (try dsimp only at hSw); go_simp; all_goals with_reducible rfl)
              (try simp only [Act.put, List.setIfInBounds_toArray, List.set_cons_zero, List.set_cons_succ])
              refine wpAnyH_take (i := 24) (v := ?_) (by rw [List.getElem?_toArray]; rfl) (by kernel_rfl) (by kernel_rfl) (by kernel_rfl) (by intro _ _ _ h; exact h) (Or.inl ⟨by rfl, ?_⟩) (by assumption) ?_
              rotate_left
              · (intro w hSw; (try dsimp only at hSw); go_simp; all_goals with_reducible rfl)
              (try simp only [Act.put, List.setIfInBounds_toArray, List.set_cons_zero, List.set_cons_succ])
              refine wpAnyH_take (i := 25) (v := ?_) (by rw [List.getElem?_toArray]; rfl) (by kernel_rfl) (by kernel_rfl) (by kernel_rfl) (by intro _ _ _ h; exact h) (Or.inl ⟨by rfl, ?_⟩) (by assumption) ?_
              rotate_left
              · (intro w hSw; (try dsimp only at hSw); go_simp; all_goals with_reducible rfl)
              (try simp only [Act.put, List.setIfInBounds_toArray, List.set_cons_zero, List.set_cons_succ])
              refine wpAnyH_done (by kernel_rfl) ?_ _
              clear c0 d0 c1 d1 c2 d2 c3 d3 c4 d4 c5 d5 c6 d6 c7 d7
              clear e0 e1 e2 e3 e4 e5 e6 e7
              have BD := Below.drew hB
              have SD := (HBL.out.below BD bl1).elem8 hlt
              have CJ := implJoinMsgs_any (some ⟨bl, ol + i * 8, none⟩) 1 (cl - i) (fun j => EL A (i + j)) wr.drew (by unfold maxLen; omega) (.inr ⟨bl, _, rfl, SD⟩) (fun j hj => by (obtain rfl : j = 0 := by omega); exact HSZ.out i hlt)
              rw [hone.1] at CJ
              clear SD hHeld
              go_wp2_with fail
              refine CJ.mono ?_
              rintro e w5 ⟨v5, rfl, O5, hb⟩
              have hB5 := BD.trans (hb.mono BD.size)
              obtain ⟨a5, c5, rfl, -, -, -⟩ := ownB_src O5
              rw [hone.2]
              clear CJ O5 hb BD
              go_wp2_with fail
              · exact absurd ‹(s0 : Int) + (1 + (pl : Int)) ≤ (cut : Int)› (Int.not_le.2 hle)
              · exact ⟨⟨_, _, _, ⟨i + 1, hlt, rfl, rfl⟩, rfl, sum_help HU.out, idx_help i⟩, meas hlt⟩
          · have hiki : ¬ (i : Int) < (k : Int) := by omega
            have hle : ¬ (s0 : Int) + (1 + (pl : Int)) ≤ (cut : Int) := fun q => hik (hknS.out q)
            clear hMS
            go_wp2_with fail
            refine wp_region_held_drew (S := (fun w' => w'.cell? ⟨bk, ok + i * 8, none⟩ = some (.int .i64 x0) ∧ w'.cell? ⟨bk, ok + i * 8 + 1, none⟩ = some (.int .i64 x1) ∧ w'.cell? ⟨bk, ok + i * 8 + 2, none⟩ = some (.int .i64 x2) ∧ w'.cell? ⟨bk, ok + i * 8 + 3, none⟩ = some (.int .i64 x3) ∧ w'.cell? ⟨bk, ok + i * 8 + 4, none⟩ = some (.int .i64 x4) ∧ w'.cell? ⟨bk, ok + i * 8 + 5, none⟩ = some (.int .i64 x5) ∧ w'.cell? ⟨bk, ok + i * 8 + 6, none⟩ = some (.int .i64 x6) ∧ w'.cell? ⟨bk, ok + i * 8 + 7, none⟩ = some (.string x7) ∧ w'.cell? ⟨bl, ol + i * 8, none⟩ = some (.int .i64 x0) ∧ w'.cell? ⟨bl, ol + i * 8 + 1, none⟩ = some (.int .i64 x1) ∧ w'.cell? ⟨bl, ol + i * 8 + 2, none⟩ = some (.int .i64 x2) ∧ w'.cell? ⟨bl, ol + i * 8 + 3, none⟩ = some (.int .i64 x3) ∧ w'.cell? ⟨bl, ol + i * 8 + 4, none⟩ = some (.int .i64 x4) ∧ w'.cell? ⟨bl, ol + i * 8 + 5, none⟩ = some (.int .i64 x5) ∧ w'.cell? ⟨bl, ol + i * 8 + 6, none⟩ = some (.int .i64 x6) ∧ w'.cell? ⟨bl, ol + i * 8 + 7, none⟩ = some (.string x7))) (by kernel_rfl) ?_ (fun hHeld => ?_)
            · first | exact ⟨c0, c1, c2, c3, c4, c5, c6, c7, d0, d1, d2, d3, d4, d5, d6, d7⟩ | (simp (maxDischargeDepth := 6) [go_sem, *]; done)
            refine wpAnyH_take (i := 0) (v := ?_) (by rw [List.getElem?_toArray]; rfl) (by kernel_rfl) (by kernel_rfl) (by kernel_rfl) (by intro _ _ _ h; exact h) (Or.inl ⟨by rfl, ?_⟩) (by assumption) ?_
            rotate_left
            · (intro w hSw; (try dsimp only at hSw); go_simp; all_goals with_reducible rfl)
            (try simp only [Act.put, List.setIfInBounds_toArray, List.set_cons_zero, List.set_cons_succ])
            refine wpAnyH_take (i := 1) (v := ?_) (by rw [List.getElem?_toArray]; rfl) (by kernel_rfl) (by kernel_rfl) (by kernel_rfl) (by intro _ _ _ h; exact h) (Or.inl ⟨by rfl, ?_⟩) (by assumption) ?_
            rotate_left
            · (intro w hSw; (try dsimp only at hSw); go_simp; all_goals with_reducible rfl)
            (try simp only [Act.put, List.setIfInBounds_toArray, List.set_cons_zero, List.set_cons_succ])
            refine wpAnyH_take (i := 2) (v := ?_) (by rw [List.getElem?_toArray]; rfl) (by kernel_rfl) (by kernel_rfl) (by kernel_rfl) (by intro _ _ _ h; exact h) (Or.inl ⟨by rfl, ?_⟩) (by assumption) ?_
            rotate_left
            · (intro w hSw; (try dsimp only at hSw); go_simp; all_goals with_reducible rfl)
            (try simp only [Act.put, List.setIfInBounds_toArray, List.set_cons_zero, List.set_cons_succ])
            refine wpAnyH_take (i := 3) (v := ?_) (by rw [List.getElem?_toArray]; rfl) (by kernel_rfl) (by kernel_rfl) (by kernel_rfl) (by intro _ _ _ h; exact h) (Or.inl ⟨by rfl, ?_⟩) (by assumption) ?_
            rotate_left
            · (intro w hSw; (try dsimp only at hSw); go_simp; all_goals with_reducible rfl)
            (try simp only [Act.put, List.setIfInBounds_toArray, List.set_cons_zero, List.set_cons_succ])
            refine wpAnyH_take (i := 4) (v := ?_) (by rw [List.getElem?_toArray]; rfl) (by kernel_rfl) (by kernel_rfl) (by kernel_rfl) (by intro _ _ _ h; exact h) (Or.inl ⟨by rfl, ?_⟩) (by assumption) ?_
            rotate_left
            · (intro w hSw; (try dsimp only at hSw); go_simp; all_goals with_reducible rfl)
            (try simp only [Act.put, List.setIfInBounds_toArray, List.set_cons_zero, List.set_cons_succ])
            refine wpAnyH_take (i := 5) (v := ?_) (by rw [List.getElem?_toArray]; rfl) (by kernel_rfl) (by kernel_rfl) (by kernel_rfl) (by intro _ _ _ h; exact h) (Or.inl ⟨by rfl, ?_⟩) (by assumption) ?_
            rotate_left
            · (intro w hSw; (try dsimp only at hSw); go_simp; all_goals with_reducible rfl)
            (try simp only [Act.put, List.setIfInBounds_toArray, List.set_cons_zero, List.set_cons_succ])
            refine wpAnyH_take (i := 6) (v := ?_) (by rw [List.getElem?_toArray]; rfl) (by kernel_rfl) (by kernel_rfl) (by kernel_rfl) (by intro _ _ _ h; exact h) (Or.inl ⟨by rfl, ?_⟩) (by assumption) ?_
            rotate_left
            · (intro w hSw; (try dsimp only at hSw); go_simp; all_goals with_reducible rfl)
            (try simp only [Act.put, List.setIfInBounds_toArray, List.set_cons_zero, List.set_cons_succ])
            refine wpAnyH_take (i := 7) (v := ?_) (by rw [List.getElem?_toArray]; rfl) (by kernel_rfl) (by kernel_rfl) (by kernel_rfl) (by intro _ _ _ h; exact h) (Or.inl ⟨by rfl, ?_⟩) (by assumption) ?_
            rotate_left
            · (intro w hSw; (try dsimp only at hSw); go_simp; all_goals with_reducible rfl)
            (try simp only [Act.put, List.setIfInBounds_toArray, List.set_cons_zero, List.set_cons_succ])
            refine wpAnyH_take (i := 8) (v := ?_) (by rw [List.getElem?_toArray]; rfl) (by kernel_rfl) (by kernel_rfl) (by kernel_rfl) (by intro _ _ _ h; exact h) (Or.inl ⟨by rfl, ?_⟩) (by assumption) ?_
            rotate_left
            · (intro w hSw; (try dsimp only at hSw); go_simp; all_goals with_reducible rfl)
            (try simp only [Act.put, List.setIfInBounds_toArray, List.set_cons_zero, List.set_cons_succ])
            refine wpAnyH_take (i := 9) (v := ?_) (by rw [List.getElem?_toArray]; rfl) (by kernel_rfl) (by kernel_rfl) (by kernel_rfl) (by intro _ _ _ h; exact h) (Or.inl ⟨by rfl, ?_⟩) (by assumption) ?_
            rotate_left
            · (intro w hSw; (try dsimp only at hSw); go_simp; all_goals with_reducible rfl)
            (try simp only [Act.put, List.setIfInBounds_toArray, List.set_cons_zero, List.set_cons_succ])
            refine wpAnyH_take (i := 10) (v := ?_) (by rw [List.getElem?_toArray]; rfl) (by kernel_rfl) (by kernel_rfl) (by kernel_rfl) (by intro _ _ _ h; exact h) (Or.inl ⟨by rfl, ?_⟩) (by assumption) ?_
            rotate_left
            · (intro w hSw; (try dsimp only at hSw); go_simp; all_goals with_reducible rfl)
            (try simp only [Act.put, List.setIfInBounds_toArray, List.set_cons_zero, List.set_cons_succ])
            refine wpAnyH_take (i := 11) (v := ?_) (by rw [List.getElem?_toArray]; rfl) (by kernel_rfl) (by kernel_rfl) (by kernel_rfl) (by intro _ _ _ h; exact h) (Or.inl ⟨by rfl, ?_⟩) (by assumption) ?_
            rotate_left
            · (intro w hSw; (try dsimp only at hSw); go_simp; all_goals with_reducible rfl)
            (try simp only [Act.put, List.setIfInBounds_toArray, List.set_cons_zero, List.set_cons_succ])
            refine wpAnyH_take (i := 12) (v := ?_) (by rw [List.getElem?_toArray]; rfl) (by kernel_rfl) (by kernel_rfl) (by kernel_rfl) (by intro _ _ _ h; exact h) (Or.inl ⟨by rfl, ?_⟩) (by assumption) ?_
            rotate_left
            · (intro w hSw; (try dsimp only at hSw); go_simp; all_goals with_reducible rfl)
            (try simp only [Act.put, List.setIfInBounds_toArray, List.set_cons_zero, List.set_cons_succ])
            refine wpAnyH_take (i := 13) (v := ?_) (by rw [List.getElem?_toArray]; rfl) (by kernel_rfl) (by kernel_rfl) (by kernel_rfl) (by intro _ _ _ h; exact h) (Or.inl ⟨by rfl, ?_⟩) (by assumption) ?_
            rotate_left
            · (intro w hSw; (try dsimp only at hSw); go_simp; all_goals with_reducible rfl)
            (try simp only [Act.put, List.setIfInBounds_toArray, List.set_cons_zero, List.set_cons_succ])
            refine wpAnyH_take (i := 14) (v := ?_) (by rw [List.getElem?_toArray]; rfl) (by kernel_rfl) (by kernel_rfl) (by kernel_rfl) (by intro _ _ _ h; exact h) (Or.inl ⟨by rfl, ?_⟩) (by assumption) ?_
            rotate_left
            · (intro w hSw; (try dsimp only at hSw); go_simp; all_goals with_reducible rfl)
            (try simp only [Act.put, List.setIfInBounds_toArray, List.set_cons_zero, List.set_cons_succ])
            refine wpAnyH_take (i := 15) (v := undef) (by rw [List.getElem?_toArray]; rfl) (by kernel_rfl) (by kernel_rfl) (by kernel_rfl) (by intro _ _ _ h; exact h) (Or.inr ⟨by rfl, rfl⟩) (by assumption) ?_
            (try simp only [Act.put, List.setIfInBounds_toArray, List.set_cons_zero, List.set_cons_succ])
            refine wpAnyH_take (i := 16) (v := undef) (by rw [List.getElem?_toArray]; rfl) (by kernel_rfl) (by kernel_rfl) (by kernel_rfl) (by intro _ _ _ h; exact h) (Or.inr ⟨by rfl, rfl⟩) (by assumption) ?_
            (try simp only [Act.put, List.setIfInBounds_toArray, List.set_cons_zero, List.set_cons_succ])
            refine wpAnyH_take (i := 17) (v := undef) (by rw [List.getElem?_toArray]; rfl) (by kernel_rfl) (by kernel_rfl) (by kernel_rfl) (by intro _ _ _ h; exact h) (Or.inr ⟨by rfl, rfl⟩) (by assumption) ?_
            (try simp only [Act.put, List.setIfInBounds_toArray, List.set_cons_zero, List.set_cons_succ])
            refine wpAnyH_take (i := 18) (v := undef) (by rw [List.getElem?_toArray]; rfl) (by kernel_rfl) (by kernel_rfl) (by kernel_rfl) (by intro _ _ _ h; exact h) (Or.inr ⟨by rfl, rfl⟩) (by assumption) ?_
            (try simp only [Act.put, List.setIfInBounds_toArray, List.set_cons_zero, List.set_cons_succ])
            refine wpAnyH_take (i := 19) (v := undef) (by rw [List.getElem?_toArray]; rfl) (by kernel_rfl) (by kernel_rfl) (by kernel_rfl) (by intro _ _ _ h; exact h) (Or.inr ⟨by rfl, rfl⟩) (by assumption) ?_
            (try simp only [Act.put, List.setIfInBounds_toArray, List.set_cons_zero, List.set_cons_succ])
            refine wpAnyH_take (i := 20) (v := undef) (by rw [List.getElem?_toArray]; rfl) (by kernel_rfl) (by kernel_rfl) (by kernel_rfl) (by intro _ _ _ h; exact h) (Or.inr ⟨by rfl, rfl⟩) (by assumption) ?_
            (try simp only [Act.put, List.setIfInBounds_toArray, List.set_cons_zero, List.set_cons_succ])
            refine wpAnyH_take (i := 21) (v := undef) (by rw [List.getElem?_toArray]; rfl) (by kernel_rfl) (by kernel_rfl) (by kernel_rfl) (by intro _ _ _ h; exact h) (Or.inr ⟨by rfl, rfl⟩) (by assumption) ?_
            (try simp only [Act.put, List.setIfInBounds_toArray, List.set_cons_zero, List.set_cons_succ])
            refine wpAnyH_take (i := 22) (v := undef) (by rw [List.getElem?_toArray]; rfl) (by kernel_rfl) (by kernel_rfl) (by kernel_rfl) (by intro _ _ _ h; exact h) (Or.inr ⟨by rfl, rfl⟩) (by assumption) ?_
            (try simp only [Act.put, List.setIfInBounds_toArray, List.set_cons_zero, List.set_cons_succ])
            refine wpAnyH_take (i := 23) (v := undef) (by rw [List.getElem?_toArray]; rfl) (by kernel_rfl) (by kernel_rfl) (by kernel_rfl) (by intro _ _ _ h; exact h) (Or.inr ⟨by rfl, rfl⟩) (by assumption) ?_
            (try simp only [Act.put, List.setIfInBounds_toArray, List.set_cons_zero, List.set_cons_succ])
            refine wpAnyH_take (i := 24) (v := ?_) (by rw [List.getElem?_toArray]; rfl) (by kernel_rfl) (by kernel_rfl) (by kernel_rfl) (by intro _ _ _ h; exact h) (Or.inl ⟨by rfl, ?_⟩) (by assumption) ?_
            rotate_left
            · (intro w hSw; (try dsimp only at hSw); go_simp; all_goals with_reducible rfl)
            (try simp only [Act.put, List.setIfInBounds_toArray, List.set_cons_zero, List.set_cons_succ])
            refine wpAnyH_take (i := 25) (v := ?_) (by rw [List.getElem?_toArray]; rfl) (by kernel_rfl) (by kernel_rfl) (by kernel_rfl) (by intro _ _ _ h; exact h) (Or.inl ⟨by rfl, ?_⟩) (by assumption) ?_
            rotate_left
            · (intro w hSw; (try dsimp only at hSw); go_simp; all_goals with_reducible rfl)
            (try simp only [Act.put, List.setIfInBounds_toArray, List.set_cons_zero, List.set_cons_succ])
            refine wpAnyH_done (by kernel_rfl) ?_ _
            clear c0 d0 c1 d1 c2 d2 c3 d3 c4 d4 c5 d5 c6 d6 c7 d7
            have BD := Below.drew hB
            have SD := (HBL.out.below BD bl1).elem8 hlt
            have CJ := implJoinMsgs_any (some ⟨bl, ol + i * 8, none⟩) 1 (cl - i) (fun j => EL A (i + j)) wr.drew (by unfold maxLen; omega) (.inr ⟨bl, _, rfl, SD⟩) (fun j hj => by (obtain rfl : j = 0 := by omega); exact HSZ.out i hlt)
            rw [hone.1] at CJ
            clear SD hHeld
            go_wp2_with fail
            refine CJ.mono ?_
            rintro e w5 ⟨v5, rfl, O5, hb⟩
            have hB5 := BD.trans (hb.mono BD.size)
            obtain ⟨a5, c5, rfl, -, -, -⟩ := ownB_src O5
            rw [hone.2]
            clear CJ O5 hb BD
            go_wp2_with fail
            · exact absurd ‹(s0 : Int) + (1 + (pl : Int)) ≤ (cut : Int)› (Int.not_le.2 hle)
            · exact ⟨⟨_, _, _, ⟨i + 1, hlt, rfl, rfl⟩, rfl, sum_help HU.out, idx_help i⟩, meas hlt⟩
        · have hin : i = A.length := by omega
          have hli : ¬ (i : Int) < (A.length : Int) := by omega
          generalize (jn (EL A) i).length = s0 at *
          go_wp2_with fail
          go_ret
          exact ⟨rfl, B5.trans (hB.mono B5.size)⟩
end Go.Proofs.Ytbflhhifkhoapaa
