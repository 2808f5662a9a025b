/- Hear in the program. -/
import Derived.Test.YtdahabbdhjgpdaaS176
import Derived.Deep.RegionHeld3
import Derived.Deep.DeepCutAuto
import Derived.WalkKit
import Derived.WalkSpells
import Derived.WalkLawsBesides
import Derived.Deep.RegionHeld
namespace Go.Proofs.Ytdahabbdhjgpdaa
open Go.RowKit
set_option linter.unusedVariables false
set_option maxRecDepth 100000 in
set_option maxHeartbeats 16000000 in
theorem implHear_any (a : Option Addr) (n c : Nat) (M : Nat → VT) (s g : Int) (p : Option Addr) (m d : Nat) (PM : Nat → SlT) (k fr tu no lo hi sl : Int) (bo : ByteArray) (ct : Int) (w : World) (hm : n ≤ maxLen) (hs : SrcC w a (n * 2) (MFIval M)) (ha : (a = none ∧ n = 0 ∧ c = 0) ∨ ∃ b off, a = some ⟨b, off, none⟩) (hpm : m ≤ maxLen) (hp : SrcC w p (m * 2) (MFSlot PM)) (hbo : bo.size ≤ 1048576) :
    Calls Try.prog 15 #[.slice a n c, .agg #[.int .i64 s, .int .i64 g, .slice p m d], .agg #[.int .i64 k, .int .i64 fr, .int .i64 tu, .int .i64 no, .int .i64 lo, .int .i64 hi, .int .i64 sl, .string bo], .int .i64 ct] w fun e w' => ∃ v, e = .returned (.tuple #[v, .int .i64 (heC M n s g PM m k fr tu no lo hi sl bo ct)]) ∧ w'.ownsRow w.heap.size 54 2 v (heV M n s g PM m k fr tu no lo hi sl bo ct).length (vrow (heV M n s g PM m k fr tu no lo hi sl bo ct)) ∧ Below w.heap.size w w' := by
  have A0 := Below.nw w (.cells #[.int .i64 s, .int .i64 g, .slice p m d] 42)
  have A1 := Below.nw (w.alloc (.cells #[.int .i64 s, .int .i64 g, .slice p m d] 42)) (.cells #[.int .i64 k, .int .i64 fr, .int .i64 tu, .int .i64 no, .int .i64 lo, .int .i64 hi, .int .i64 sl, .string bo] 46)
  have N := (Tx3.new w (.int .i64 s) (.int .i64 g) (.slice p m d) 42).below A1
  have P := Box8.new (w.alloc (.cells #[.int .i64 s, .int .i64 g, .slice p m d] 42)) k fr tu no lo hi sl bo 46
  have B := A0.trans (A1.mono A0.size)
  simp only [World.size_alloc] at P
  clear A0 A1
  have HS : Hid (SrcC w a (n * 2) (MFIval M)) := hs
  have HP : Hid (SrcC w p (m * 2) (MFSlot PM)) := hp
  have HA : Hid (∀ w', SrcC w' a (n * 2) (MFIval M) → (a = none ∧ n = 0 ∧ c = 0) ∨ ∃ b off, a = some ⟨b, off, none⟩ ∧ (n = 0 ∨ Cs w' b off (n * 2) (MFIval M))) := fun w' h => by
    rcases ha with q | ⟨b, off, e⟩
    · exact .inl q
    · refine .inr ⟨b, off, e, ?_⟩
      rcases h with q | ⟨b', off', e', hc⟩
      · exact .inl (by omega)
      · rw [e] at e'
        simp at e'
        obtain ⟨rfl, rfl⟩ := e'
        exact .inr hc
  have C1 := fun w' h => implHeardOk_any a n c M w' hm h
  have C2 := fun w' h => planOk_any s g p m d PM w' hpm h
  have C3 := fun w' => isTime_any ct w'
  clear hs hp ha
  cases h1 : hrB M n
  · have e0 : hgB M n s g PM m ct = false := by unfold hgB; rw [h1]; rfl
    have HC : Hid (heC M n s g PM m k fr tu no lo hi sl bo ct = 1) := by rw [Hid, heC, e0]
    have HV : Hid (heV M n s g PM m k fr tu no lo hi sl bo ct = []) := by rw [Hid, heV, e0]
    clear e0
    go_enter Try.func15, Try.ntmps15; go_upto_region 1 with fail; generalize (w.alloc (.cells #[.int .i64 s, .int .i64 g, .slice p m d] 42)).alloc (.cells #[.int .i64 k, .int .i64 fr, .int .i64 tu, .int .i64 no, .int .i64 lo, .int .i64 hi, .int .i64 sl, .string bo] 46) = v at *
    go_wp2_with fail; refine (C1 _ (HS.out.below B)).mono ?_; rintro e v1 ⟨rfl, hb⟩; rw [h1]; replace B := B.trans (hb.mono B.size); replace N := N.below hb; replace P := P.below hb; clear hb
    go_wp2_with fail; exact bodyPost_ret (v := (.tuple #[.slice none 0 0, .int .i64 1])) (by simp (maxDischargeDepth := 6) [results, Try.results15, go_sem, *]) rfl ⟨_, by rw [HC.out], by rw [HV.out]; exact nil_heard _ _, B⟩
  cases h2 : plB s g PM m
  · have e0 : hgB M n s g PM m ct = false := by unfold hgB; rw [h1, h2]; rfl
    have HC : Hid (heC M n s g PM m k fr tu no lo hi sl bo ct = 1) := by rw [Hid, heC, e0]
    have HV : Hid (heV M n s g PM m k fr tu no lo hi sl bo ct = []) := by rw [Hid, heV, e0]
    clear e0
    go_enter Try.func15, Try.ntmps15; go_upto_region 1 with fail; generalize (w.alloc (.cells #[.int .i64 s, .int .i64 g, .slice p m d] 42)).alloc (.cells #[.int .i64 k, .int .i64 fr, .int .i64 tu, .int .i64 no, .int .i64 lo, .int .i64 hi, .int .i64 sl, .string bo] 46) = v at *
    go_wp2_with fail; refine (C1 _ (HS.out.below B)).mono ?_; rintro e v1 ⟨rfl, hb⟩; rw [h1]; replace B := B.trans (hb.mono B.size); replace N := N.below hb; replace P := P.below hb; clear hb
    obtain ⟨n0, n1, n2, n3, n4, n5, n6⟩ := id N; go_wp2_with fail; refine (C2 _ (HP.out.below B)).mono ?_; rintro e v2 ⟨rfl, hb⟩; clear n0 n1 n2 n3 n4 n5 n6; rw [h2]; replace B := B.trans (hb.mono B.size); replace N := N.below hb; replace P := P.below hb; clear hb
    go_wp2_with fail; exact bodyPost_ret (v := (.tuple #[.slice none 0 0, .int .i64 1])) (by simp (maxDischargeDepth := 6) [results, Try.results15, go_sem, *]) rfl ⟨_, by rw [HC.out], by rw [HV.out]; exact nil_heard _ _, B⟩
  cases h3 : okT ct
  · have e0 : hgB M n s g PM m ct = false := by unfold hgB; rw [h1, h2, h3]; rfl
    have HC : Hid (heC M n s g PM m k fr tu no lo hi sl bo ct = 1) := by rw [Hid, heC, e0]
    have HV : Hid (heV M n s g PM m k fr tu no lo hi sl bo ct = []) := by rw [Hid, heV, e0]
    clear e0
    go_enter Try.func15, Try.ntmps15; go_upto_region 1 with fail; generalize (w.alloc (.cells #[.int .i64 s, .int .i64 g, .slice p m d] 42)).alloc (.cells #[.int .i64 k, .int .i64 fr, .int .i64 tu, .int .i64 no, .int .i64 lo, .int .i64 hi, .int .i64 sl, .string bo] 46) = v at *
    go_wp2_with fail; refine (C1 _ (HS.out.below B)).mono ?_; rintro e v1 ⟨rfl, hb⟩; rw [h1]; replace B := B.trans (hb.mono B.size); replace N := N.below hb; replace P := P.below hb; clear hb
    obtain ⟨n0, n1, n2, n3, n4, n5, n6⟩ := id N; go_wp2_with fail; refine (C2 _ (HP.out.below B)).mono ?_; rintro e v2 ⟨rfl, hb⟩; clear n0 n1 n2 n3 n4 n5 n6; rw [h2]; replace B := B.trans (hb.mono B.size); replace N := N.below hb; replace P := P.below hb; clear hb
    go_wp2_with fail; refine (C3 _).mono ?_; rintro e v3 ⟨rfl, hv3⟩; subst hv3; rw [h3]; (try generalize v2 = v3 at *)
    go_wp2_with fail; exact bodyPost_ret (v := (.tuple #[.slice none 0 0, .int .i64 1])) (by simp (maxDischargeDepth := 6) [results, Try.results15, go_sem, *]) rfl ⟨_, by rw [HC.out], by rw [HV.out]; exact nil_heard _ _, B⟩
  have e0 : hgB M n s g PM m ct = true := by unfold hgB; rw [h1, h2, h3]; rfl
  have hn16 := (hrB_t h1).1
  have HR : Hid (hrA M n = true) := (hrB_t h1).2
  have CT := fun w' h => takes_any s g p m d PM k fr tu no lo hi sl bo w' hpm h hbo h2
  have CC := fun w' h => clone16_any a n c M w' (by omega) h
  have CP := fun w' h => putHeard_any a n c M sl ct w' HR.out hn16 h
  cases h4 : hmB PM m k fr tu no lo hi sl bo
  · have HC : Hid (heC M n s g PM m k fr tu no lo hi sl bo ct = 2) := by rw [Hid, heC, e0, h4]
    have HV : Hid (heV M n s g PM m k fr tu no lo hi sl bo ct = lsV M n) := by rw [Hid, heV, e0, h4]
    clear e0 CP
    go_enter Try.func15, Try.ntmps15; go_upto_region 1 with fail; generalize (w.alloc (.cells #[.int .i64 s, .int .i64 g, .slice p m d] 42)).alloc (.cells #[.int .i64 k, .int .i64 fr, .int .i64 tu, .int .i64 no, .int .i64 lo, .int .i64 hi, .int .i64 sl, .string bo] 46) = v at *
    go_wp2_with fail; refine (C1 _ (HS.out.below B)).mono ?_; rintro e v1 ⟨rfl, hb⟩; rw [h1]; replace B := B.trans (hb.mono B.size); replace N := N.below hb; replace P := P.below hb; clear hb
    obtain ⟨n0, n1, n2, n3, n4, n5, n6⟩ := id N; go_wp2_with fail; refine (C2 _ (HP.out.below B)).mono ?_; rintro e v2 ⟨rfl, hb⟩; clear n0 n1 n2 n3 n4 n5 n6; rw [h2]; replace B := B.trans (hb.mono B.size); replace N := N.below hb; replace P := P.below hb; clear hb
    go_wp2_with fail; refine (C3 _).mono ?_; rintro e v3 ⟨rfl, hv3⟩; subst hv3; rw [h3]; (try generalize v2 = v3 at *)
    obtain ⟨n0, n1, n2, n3, n4, n5, n6⟩ := id N; obtain ⟨p0, p1, p2, p3, p4, p5, p6, p7, p8⟩ := id P; go_wp2_with fail; refine (CT _ (HP.out.below B)).mono ?_; rintro e v4 ⟨rfl, hb⟩; clear n0 n1 n2 n3 n4 n5 n6; clear p0 p1 p2 p3 p4 p5 p6 p7 p8; rw [h4]; replace B := B.trans (hb.mono B.size); replace N := N.below hb; replace P := P.below hb; clear hb
    go_wp2_with fail
    refine (CC _ (HA.out _ (HS.out.below B))).mono ?_
    rintro e v5 ⟨v', rfl, OW, hb⟩
    have HO : Hid (v5.ownsRow w.heap.size 54 2 v' n (vrow (lsV M n))) := by rw [Hid, lsV_row]; exact own_baseI16 OW B.size
    replace B := B.trans (hb.mono B.size)
    clear OW hb CC HS HA
    go_wp2_with fail
    exact bodyPost_ret (v := (.tuple #[v', .int .i64 2])) (by simp (maxDischargeDepth := 6) [results, Try.results15, go_sem, *]) rfl ⟨_, by rw [HC.out], by rw [HV.out, lsV_len]; exact HO.out, B⟩
  · have HC : Hid (heC M n s g PM m k fr tu no lo hi sl bo ct = 0) := by rw [Hid, heC, e0, h4]
    have HV : Hid (heV M n s g PM m k fr tu no lo hi sl bo ct = hpL M n sl ct) := by rw [Hid, heV, e0, h4]
    clear e0 CC
    go_enter Try.func15, Try.ntmps15; go_upto_region 1 with fail; generalize (w.alloc (.cells #[.int .i64 s, .int .i64 g, .slice p m d] 42)).alloc (.cells #[.int .i64 k, .int .i64 fr, .int .i64 tu, .int .i64 no, .int .i64 lo, .int .i64 hi, .int .i64 sl, .string bo] 46) = v at *
    go_wp2_with fail; refine (C1 _ (HS.out.below B)).mono ?_; rintro e v1 ⟨rfl, hb⟩; rw [h1]; replace B := B.trans (hb.mono B.size); replace N := N.below hb; replace P := P.below hb; clear hb
    obtain ⟨n0, n1, n2, n3, n4, n5, n6⟩ := id N; go_wp2_with fail; refine (C2 _ (HP.out.below B)).mono ?_; rintro e v2 ⟨rfl, hb⟩; clear n0 n1 n2 n3 n4 n5 n6; rw [h2]; replace B := B.trans (hb.mono B.size); replace N := N.below hb; replace P := P.below hb; clear hb
    go_wp2_with fail; refine (C3 _).mono ?_; rintro e v3 ⟨rfl, hv3⟩; subst hv3; rw [h3]; (try generalize v2 = v3 at *)
    obtain ⟨n0, n1, n2, n3, n4, n5, n6⟩ := id N; obtain ⟨p0, p1, p2, p3, p4, p5, p6, p7, p8⟩ := id P; go_wp2_with fail; refine (CT _ (HP.out.below B)).mono ?_; rintro e v4 ⟨rfl, hb⟩; clear n0 n1 n2 n3 n4 n5 n6; clear p0 p1 p2 p3 p4 p5 p6 p7 p8; rw [h4]; replace B := B.trans (hb.mono B.size); replace N := N.below hb; replace P := P.below hb; clear hb
    obtain ⟨p0, p1, p2, p3, p4, p5, p6, p7, p8⟩ := id P
    go_wp2_with fail
    refine (CP _ (HA.out _ (HS.out.below B))).mono ?_
    rintro e v5 ⟨v', rfl, OW, hb⟩
    have HO : Hid (v5.ownsRow w.heap.size 54 2 v' (hpL M n sl ct).length (vrow (hpL M n sl ct))) := own_baseI16 OW B.size
    replace B := B.trans (hb.mono B.size)
    clear p0 p1 p2 p3 p4 p5 p6 p7 p8
    clear OW hb CP HS HA
    go_wp2_with fail
    exact bodyPost_ret (v := (.tuple #[v', .int .i64 0])) (by simp (maxDischargeDepth := 6) [results, Try.results15, go_sem, *]) rfl ⟨_, by rw [HC.out], by rw [HV.out]; exact HO.out, B⟩
end Go.Proofs.Ytdahabbdhjgpdaa
