/- The contract of spec.ExpireAsks. -/
import Derived.Test.YtlaladalnbdhpaaF8
import Derived.Test.YtlaladalnbdhpaaD8
import Derived.Test.YtlaladalnbdhpaaB7
import Derived.Deep.RegionHeld3
import Derived.Deep.DeepCutAuto
import Derived.WalkKit
import Derived.WalkSpells
import Derived.WalkLawsBesides
import Derived.Deep.RegionHeld
namespace Go.Proofs.Ytlaladalnbdhpaa
open Go.RowKit
set_option linter.unusedVariables false
theorem lst_succ (M : Nat → KT) (k : Nat) : lst M (k + 1) = lst M k ++ [M k] := by simp [lst, List.range_succ]
theorem rowL0 {L : List KT} (h : 0 < L.length) : rowL L 0 ∈ L := by
  cases L with
  | nil => simp at h
  | cons a t => simp [rowL]
theorem gon_at0 {x p : Int} {L : List KT} (h : 0 < (gon x p L).length) : ltB x p (rowL (gon x p L) 0) = true := (List.mem_filter.1 (rowL0 h)).2
theorem kep_at0 {x p : Int} {L : List KT} (h : 0 < (kep x p L).length) : ltB x p (rowL (kep x p L) 0) = false := (Bool.not_eq_true' _).mp (show (!ltB x p (rowL (kep x p L) 0)) = true from (List.mem_filter.1 (rowL0 h)).2)
theorem at_off {w : World} {base : Nat} {e : TypeId} {s n c : Nat} {a : Option Addr} {xs : List Value} (h : w.ownsRow base e s (.slice a n c) n xs) {b off : Nat} (ha : a = some ⟨b, off, none⟩) : off = 0 := by
  rcases h.2 with ⟨he, _⟩ | ⟨g', cap, cur, he, _⟩
  · simp at he; rw [he.1] at ha; cases ha
  · simp at he; rw [he.1] at ha; simp at ha; exact ha.2.symm
theorem own_cell2 {w : World} {base n c : Nat} {a : Option Addr} {G : Nat → KT} (h : w.ownsRow base 34 4 (.slice a n c) n (krow G n)) (hn : 0 < n) {g : Nat} (hg : (Value.slice a n c).ownBlock = some g) : w.cell? ⟨g, 2, none⟩ = some (.int .i64 (G 0).2.2.1) := by
  obtain ⟨a2, c2, e2, _, _, S⟩ := ownF_src h
  injection e2 with e2 e3 e4
  subst e2 e4
  rcases S with S | ⟨b, off, ha, hc⟩
  · omega
  · have h1 := own_at h ha
    rw [hg] at h1
    injection h1 with h1
    subst h1
    have h2 := at_off h ha
    subst h2
    have q := hc.2 2 (by omega)
    obtain ⟨x0, x1, x2, x3, hG⟩ := tupAsk G 0
    have v := (MFAsk_vals hG).2.2.1
    simp only [Nat.zero_mul, Nat.zero_add] at v q
    rw [q, v, hG]
theorem own_two {w : World} {b1 b2 n m c c' : Nat} {a a' : Option Addr} {G H : Nat → KT} (h1 : w.ownsRow b1 34 4 (.slice a n c) n (krow G n)) (h2 : w.ownsRow b2 34 4 (.slice a' m c') m (krow H m)) (hn : 0 < n) (hm : 0 < m) (hne : (G 0).2.2.1 ≠ (H 0).2.2.1) : ∀ g, (Value.slice a n c).ownBlock = some g → (Value.slice a' m c').ownBlock ≠ some g := by
  intro g e1 e2
  have q1 := own_cell2 h1 hn e1
  rw [own_cell2 h2 hm e2] at q1
  injection q1 with q1
  injection q1 with _ q1
  exact hne q1.symm
theorem lt_at {x p : Int} {K K' : KT} (h : ltB x p K = true) (h' : ltB x p K' = false) : K.2.2.1 ≠ K'.2.2.1 := by
  intro e
  unfold ltB at h h'
  rw [e, h'] at h
  cases h
theorem no_box {w : World} {base j n c : Nat} {a : Option Addr} {G : Nat → KT} {u0 u1 : Value} {a' : Option Addr} {n' c' : Nat} (h : w.ownsRow base 34 4 (.slice a n c) n (krow G n)) (hn : 0 < n) (hb : Bx3 w j u0 u1 (.slice a' n' c')) : ∀ g, (Value.slice a n c).ownBlock = some g → g ≠ j := by
  intro g hg e
  subst e
  have q := own_cell2 h hn hg
  rw [hb.2.2.2.1] at q
  cases q
def ExInv (ep us x p : Int) (M : Nat → KT) (w : World) (ad : Addr) (n c bo k : Nat) (vg : Value) (wr : World) : Prop := ∃ ag cg ao co, vg = .slice ag (gon x p (lst M k)).length cg ∧ Bx3 wr bo (.int .i64 ep) (.int .i64 us) (.slice ao (kep x p (lst M k)).length co) ∧ wr.ownsRow (bo + 1) 34 4 (.slice ao (kep x p (lst M k)).length co) (kep x p (lst M k)).length (krow (rowL (kep x p (lst M k))) (kep x p (lst M k)).length) ∧ ((kep x p (lst M k)).length = 0 → ao = none) ∧ wr.ownsRow (w.heap.size + 2) 34 4 (.slice ag (gon x p (lst M k)).length cg) (gon x p (lst M k)).length (krow (rowL (gon x p (lst M k))) (gon x p (lst M k)).length) ∧ ((gon x p (lst M k)).length = 0 → ag = some ⟨w.heap.size + 2, 0, none⟩) ∧ (∀ g, (Value.slice ag (gon x p (lst M k)).length cg).ownBlock = some g → g ≠ bo) ∧ (∀ g, (Value.slice ag (gon x p (lst M k)).length cg).ownBlock = some g → (Value.slice ao (kep x p (lst M k)).length co).ownBlock ≠ some g) ∧ IB3 wr w.heap.size ep us (some ad) n c ∧ Bx3 wr (w.heap.size + 1) (.int .i64 0) (.int .i64 0) (.slice none 0 0) ∧ Froms wr ad M n ∧ Below w.heap.size w wr
theorem Froms.keptK {w w' : World} {ad : Addr} {M : Nat → KT} {n : Nat} {o : Option Nat} (h : Froms w ad M n) (hg : w.grownBy w' o) (hne : some ad.block ≠ o) : Froms w' ad M n := by
  rcases h with h | ⟨hs, h⟩
  · exact .inl h
  · exact .inr ⟨hs, h.kept hg hne⟩
set_option maxHeartbeats 8000000 in
theorem specExpire_bad (ep us : Int) (ad : Addr) (n c : Nat) (M : Nat → KT) (x y : Int) (w : World) (hm : n ≤ maxLen) (hf : Froms w ad M n) (hbad : (tabB ep us M n && tmB x && tmB y) = false) :
    Calls Try.prog 27 #[.agg #[.int .i64 ep, .int .i64 us, .slice (some ad) n c], .int .i64 x, .int .i64 y] w fun e w' => ∃ a' c' a1 c1, e = .returned (.tuple #[.agg #[.int .i64 0, .int .i64 0, .slice a' 0 c'], .slice a1 0 c1]) ∧ w'.ownsRow w.heap.size 34 4 (.slice a' 0 c') 0 (krow (M) 0) ∧ w'.ownsRow w.heap.size 34 4 (.slice a1 0 c1) 0 (krow (M) 0) ∧ Below w.heap.size w w' := by
  have A1 := Below.nw w (.cells #[.int .i64 ep, .int .i64 us, .slice (some ad) n c] 26)
  have A2 := Below.nw (w.alloc (.cells #[.int .i64 ep, .int .i64 us, .slice (some ad) n c] 26)) (.cells #[.int .i64 0, .int .i64 0, .slice none 0 0] 26)
  have A3 := Below.nw ((w.alloc (.cells #[.int .i64 ep, .int .i64 us, .slice (some ad) n c] 26)).alloc (.cells #[.int .i64 0, .int .i64 0, .slice none 0 0] 26)) (.cells #[] 34)
  have N := ((IB3.new w ep us (some ad) n c 26).below A2).below A3
  have R := (Bx3.new (w.alloc (.cells #[.int .i64 ep, .int .i64 us, .slice (some ad) n c] 26)) (.int .i64 0) (.int .i64 0) (.slice none 0 0) 26).below A3
  have CS := ((hf.below A1).below A2).below A3
  have B := (A1.trans (A2.mono A1.size)).trans (A3.mono (A1.trans (A2.mono A1.size)).size)
  have OE := World.ownsRow_made (base := w.heap.size + 2) (size := 4) (e := 34) ((w.alloc (.cells #[.int .i64 ep, .int .i64 us, .slice (some ad) n c] 26)).alloc (.cells #[.int .i64 0, .int .i64 0, .slice none 0 0] 26)) #[] 0 (by simp) (by simp [maxLen]) (by simp)
  have ez : ((w.alloc (.cells #[.int .i64 ep, .int .i64 us, .slice (some ad) n c] 26)).alloc (.cells #[.int .i64 0, .int .i64 0, .slice none 0 0] 26)).heap.size = w.heap.size + 2 := by simp
  rw [ez] at OE
  simp only [World.size_alloc] at R
  have C := specTab_any ep us (some ad) n c M _ hm CS.src
  clear hf A1 A2 A3 ez
  go_enter Try.func27, Try.ntmps27
  go_upto_region 2 with fail
  generalize ((w.alloc (.cells #[.int .i64 ep, .int .i64 us, .slice (some ad) n c] 26)).alloc (.cells #[.int .i64 0, .int .i64 0, .slice none 0 0] 26)).alloc (.cells #[] 34) = wa at *
  have hJ1 : w.heap.size + 2 < wa.heap.size := (World.ownsRow.lt OE _ rfl).2
  obtain ⟨n9, n0, n1, n2⟩ := id N
  go_wp2_with fail
  refine C.mono ?_
  rintro e wz ⟨rfl, hb⟩
  clear n9 n0 n1 n2
  replace N := N.below hb
  replace R := R.below hb
  replace CS := CS.below hb
  replace OE := own_belK' OE hb
  replace B := B.trans (hb.mono B.size)
  have hzz := hb.size
  clear hb C
  cases ht : tabB ep us M n
  · clear hbad ht
    have RQ := R.set (.int .i64 0) (.int .i64 0) (.slice none 0 0)
    have PB := put3_butK wz (w.heap.size + 1) (.int .i64 0) (.int .i64 0) (.slice none 0 0)
    have BQ := B.trans (PB.below (B := w.heap.size) (by omega) B.size)
    have OQ := World.ownsRow_nil (((wz.setCell ⟨w.heap.size + 1, 0, none⟩ (.int .i64 0)).setCell ⟨w.heap.size + 1, 1, none⟩ (.int .i64 0)).setCell ⟨w.heap.size + 1, 2, none⟩ (.slice none 0 0)) w.heap.size 34 4
    have SQ := ownK_le (base' := w.heap.size) (own_butK OE PB (by omega)) (by omega)
    have KZ : Hid (_ ∧ _ ∧ _) := ⟨OQ, SQ, BQ⟩
    obtain ⟨r0, r1, r2, r3, r4, r5, r6⟩ := R
    clear PB OQ SQ BQ
    go_wp2_with fail
    generalize (((wz.setCell ⟨w.heap.size + 1, 0, none⟩ (.int .i64 0)).setCell ⟨w.heap.size + 1, 1, none⟩ (.int .i64 0)).setCell ⟨w.heap.size + 1, 2, none⟩ (.slice none 0 0)) = wq at *
    obtain ⟨q0, q1, q2, q3, q4, q5, q6⟩ := RQ
    exact bodyPost_ret (v := .tuple #[.agg #[.int .i64 0, .int .i64 0, .slice none 0 0], .slice (some ⟨w.heap.size + 2, 0, none⟩) 0 0]) (by simp (maxDischargeDepth := 6) [results, Try.results27, go_sem, q1, q2, q3]) rfl ⟨_, _, _, _, rfl, KZ.out⟩
  · rw [ht] at hbad
    clear ht
    cases h1 : tmB x
    · clear hbad
      go_wp2_with fail
      refine (l2Time_any _ _).mono ?_
      rintro e w' ⟨rfl, rfl⟩
      rw [h1]
      have RQ := R.set (.int .i64 0) (.int .i64 0) (.slice none 0 0)
      have PB := put3_butK wz (w.heap.size + 1) (.int .i64 0) (.int .i64 0) (.slice none 0 0)
      have BQ := B.trans (PB.below (B := w.heap.size) (by omega) B.size)
      have OQ := World.ownsRow_nil (((wz.setCell ⟨w.heap.size + 1, 0, none⟩ (.int .i64 0)).setCell ⟨w.heap.size + 1, 1, none⟩ (.int .i64 0)).setCell ⟨w.heap.size + 1, 2, none⟩ (.slice none 0 0)) w.heap.size 34 4
      have SQ := ownK_le (base' := w.heap.size) (own_butK OE PB (by omega)) (by omega)
      have KZ : Hid (_ ∧ _ ∧ _) := ⟨OQ, SQ, BQ⟩
      obtain ⟨r0, r1, r2, r3, r4, r5, r6⟩ := R
      clear PB OQ SQ BQ
      go_wp2_with fail
      generalize (((wz.setCell ⟨w.heap.size + 1, 0, none⟩ (.int .i64 0)).setCell ⟨w.heap.size + 1, 1, none⟩ (.int .i64 0)).setCell ⟨w.heap.size + 1, 2, none⟩ (.slice none 0 0)) = wq at *
      obtain ⟨q0, q1, q2, q3, q4, q5, q6⟩ := RQ
      exact bodyPost_ret (v := .tuple #[.agg #[.int .i64 0, .int .i64 0, .slice none 0 0], .slice (some ⟨w.heap.size + 2, 0, none⟩) 0 0]) (by simp (maxDischargeDepth := 6) [results, Try.results27, go_sem, q1, q2, q3]) rfl ⟨_, _, _, _, rfl, KZ.out⟩
    · have h2 : tmB y = false := by rw [h1] at hbad; exact hbad
      clear hbad
      go_wp2_with fail
      refine (l2Time_any _ _).mono ?_
      rintro e w' ⟨rfl, rfl⟩
      rw [h1]
      go_wp2_with fail
      refine (l2Time_any _ _).mono ?_
      rintro e w' ⟨rfl, rfl⟩
      rw [h2]
      have RQ := R.set (.int .i64 0) (.int .i64 0) (.slice none 0 0)
      have PB := put3_butK wz (w.heap.size + 1) (.int .i64 0) (.int .i64 0) (.slice none 0 0)
      have BQ := B.trans (PB.below (B := w.heap.size) (by omega) B.size)
      have OQ := World.ownsRow_nil (((wz.setCell ⟨w.heap.size + 1, 0, none⟩ (.int .i64 0)).setCell ⟨w.heap.size + 1, 1, none⟩ (.int .i64 0)).setCell ⟨w.heap.size + 1, 2, none⟩ (.slice none 0 0)) w.heap.size 34 4
      have SQ := ownK_le (base' := w.heap.size) (own_butK OE PB (by omega)) (by omega)
      have KZ : Hid (_ ∧ _ ∧ _) := ⟨OQ, SQ, BQ⟩
      obtain ⟨r0, r1, r2, r3, r4, r5, r6⟩ := R
      clear PB OQ SQ BQ
      go_wp2_with fail
      generalize (((wz.setCell ⟨w.heap.size + 1, 0, none⟩ (.int .i64 0)).setCell ⟨w.heap.size + 1, 1, none⟩ (.int .i64 0)).setCell ⟨w.heap.size + 1, 2, none⟩ (.slice none 0 0)) = wq at *
      obtain ⟨q0, q1, q2, q3, q4, q5, q6⟩ := RQ
      exact bodyPost_ret (v := .tuple #[.agg #[.int .i64 0, .int .i64 0, .slice none 0 0], .slice (some ⟨w.heap.size + 2, 0, none⟩) 0 0]) (by simp (maxDischargeDepth := 6) [results, Try.results27, go_sem, q1, q2, q3]) rfl ⟨_, _, _, _, rfl, KZ.out⟩
set_option maxRecDepth 100000 in
set_option maxHeartbeats 16000000 in
theorem specExpire_done (ep us : Int) (ad : Addr) (n c : Nat) (M : Nat → KT) (x y : Int) (w : World) (hm : n ≤ maxLen) (hf : Froms w ad M n) (ht : tabB ep us M n = true) (h1 : tmB x = true) (h2 : tmB y = true) (HBW : Hid (ad.block < w.heap.size)) :
    Calls Try.prog 27 #[.agg #[.int .i64 ep, .int .i64 us, .slice (some ad) n c], .int .i64 x, .int .i64 y] w fun e w' => ∃ a' c' a1 c1, e = .returned (.tuple #[.agg #[.int .i64 ep, .int .i64 us, .slice a' (kep x y (lst M n)).length c'], .slice a1 (gon x y (lst M n)).length c1]) ∧ w'.ownsRow w.heap.size 34 4 (.slice a' (kep x y (lst M n)).length c') (kep x y (lst M n)).length (krow (rowL (kep x y (lst M n))) (kep x y (lst M n)).length) ∧ w'.ownsRow w.heap.size 34 4 (.slice a1 (gon x y (lst M n)).length c1) (gon x y (lst M n)).length (krow (rowL (gon x y (lst M n))) (gon x y (lst M n)).length) ∧ Below w.heap.size w w' := by
  have hn16 := tabB_len' ht
  have HAT : Hid (atB (lst M n)) := el_at ht
  have hxr := tmB_in h1
  obtain ⟨i0, hi, hz0, hz1, hz2⟩ := infoK_parts
  have A1 := Below.nw w (.cells #[.int .i64 ep, .int .i64 us, .slice (some ad) n c] 26)
  have A2 := Below.nw (w.alloc (.cells #[.int .i64 ep, .int .i64 us, .slice (some ad) n c] 26)) (.cells #[.int .i64 0, .int .i64 0, .slice none 0 0] 26)
  have A3 := Below.nw ((w.alloc (.cells #[.int .i64 ep, .int .i64 us, .slice (some ad) n c] 26)).alloc (.cells #[.int .i64 0, .int .i64 0, .slice none 0 0] 26)) (.cells #[] 34)
  have N := ((IB3.new w ep us (some ad) n c 26).below A2).below A3
  have R := (Bx3.new (w.alloc (.cells #[.int .i64 ep, .int .i64 us, .slice (some ad) n c] 26)) (.int .i64 0) (.int .i64 0) (.slice none 0 0) 26).below A3
  have CS := ((hf.below A1).below A2).below A3
  have B := (A1.trans (A2.mono A1.size)).trans (A3.mono (A1.trans (A2.mono A1.size)).size)
  have OE := World.ownsRow_made (base := w.heap.size + 2) (size := 4) (e := 34) ((w.alloc (.cells #[.int .i64 ep, .int .i64 us, .slice (some ad) n c] 26)).alloc (.cells #[.int .i64 0, .int .i64 0, .slice none 0 0] 26)) #[] 0 (by simp) (by simp [maxLen]) (by simp)
  have ez : ((w.alloc (.cells #[.int .i64 ep, .int .i64 us, .slice (some ad) n c] 26)).alloc (.cells #[.int .i64 0, .int .i64 0, .slice none 0 0] 26)).heap.size = w.heap.size + 2 := by simp
  rw [ez] at OE
  simp only [World.size_alloc] at R
  have C := specTab_any ep us (some ad) n c M _ hm CS.src
  clear hf A1 A2 A3 ez
  go_enter Try.func27, Try.ntmps27
  go_upto_region 2 with fail
  generalize ((w.alloc (.cells #[.int .i64 ep, .int .i64 us, .slice (some ad) n c] 26)).alloc (.cells #[.int .i64 0, .int .i64 0, .slice none 0 0] 26)).alloc (.cells #[] 34) = wa at *
  have hJ1 : w.heap.size + 2 < wa.heap.size := (World.ownsRow.lt OE _ rfl).2
  obtain ⟨n9, n0, n1, n2⟩ := id N
  go_wp2_with fail
  refine C.mono ?_
  rintro e wz ⟨rfl, hb⟩
  clear n9 n0 n1 n2
  replace N := N.below hb
  replace R := R.below hb
  replace CS := CS.below hb
  replace OE := own_belK' OE hb
  replace B := B.trans (hb.mono B.size)
  have hzz := hb.size
  clear hb C
  rw [ht]
  clear ht
  go_wp2_with fail
  refine (l2Time_any _ _).mono ?_
  rintro e w' ⟨rfl, rfl⟩
  rw [h1]
  go_wp2_with fail
  refine (l2Time_any _ _).mono ?_
  rintro e w' ⟨rfl, rfl⟩
  rw [h2]
  have A3 := Below.nw wz (.cells #[.int .i64 ep, .int .i64 us, .slice none 0 0] 26)
  have O := Bx3.new wz (.int .i64 ep) (.int .i64 us) (.slice none 0 0) 26
  obtain ⟨n9, n0, n1, n2⟩ := id N
  go_upto_region 5 with fail
  clear n9 n0 n1 n2 h1 h2
  replace N := N.below A3
  replace R := R.below A3
  replace CS := CS.below A3
  replace OE := own_belK' OE A3
  replace B := B.trans (A3.mono B.size)
  clear A3
  generalize hbo : wz.heap.size = bo at *
  generalize wz.alloc (.cells #[.int .i64 ep, .int .i64 us, .slice none 0 0] 26) = v1 at *
  go_wp2_with fail
  go_loopw [8, 10] (fun s8 s10 wr => ∃ k : Nat, k ≤ n ∧ s10 = .int .i64 (k : Int) ∧ ExInv ep us x y M w ad n c bo k s8 wr) (fun _ s10 _ => n - (vI s10).toNat)
  case atStart => exact ⟨0, Nat.zero_le _, rfl, some ⟨w.heap.size + 2, 0, none⟩, 0, none, 0, rfl, O, World.ownsRow_nil _ _ _ _, fun _ => rfl, OE, fun _ => rfl, fun g hg => (by simp [Value.ownBlock] at hg; omega), fun g hg => (by simp [Value.ownBlock]), N, R, CS, B⟩
  case round =>
    clear O N R CS B OE
    obtain ⟨k, hk, rfl, ag, cg, ao, co, rfl, O, W, hao, GW, hag, GB, GD, N, R, CS, B⟩ := hrel
    have HAO : Hid ((kep x y (lst M k)).length = 0 → ao = none) := hao
    have HAG : Hid ((gon x y (lst M k)).length = 0 → ag = some ⟨w.heap.size + 2, 0, none⟩) := hag
    have HGB : Hid (∀ g, (Value.slice ag (gon x y (lst M k)).length cg).ownBlock = some g → g ≠ bo) := GB
    have HGD : Hid (∀ g, (Value.slice ag (gon x y (lst M k)).length cg).ownBlock = some g → (Value.slice ao (kep x y (lst M k)).length co).ownBlock ≠ some g) := GD
    clear hao hag GB GD
    obtain ⟨n0, n1, n2, n3⟩ := id N
    obtain ⟨o0, o1, o2, o3, o4, o5, o6⟩ := id O
    by_cases hlt : k < n
    · have hli : decide ((k : Int) < (n : Int)) = true := decide_eq_true (by omega)
      obtain ⟨b, off, rfl, CZ⟩ : ∃ b off, ad = ⟨b, off, none⟩ ∧ Cs wr b off (n * 4) (MFAsk M) := by
        rcases CS with h | ⟨hs, h⟩
        · omega
        · obtain ⟨b, off, s⟩ := ad
          simp only at hs h
          subst hs
          exact ⟨b, off, rfl, h⟩
      obtain ⟨x0, x1, x2, x3, hM⟩ := tupAsk M k
      obtain ⟨c0, c1, c2, c3⟩ := CZ.elAsk hlt hM
      have hb0 : b < w.heap.size := HBW.out
      have hx2 : 0 ≤ x2 ∧ x2 ≤ 1000000000000 := by have := HAT.out (M k) (by simp only [lst, List.mem_map, List.mem_range]; exact ⟨k, hlt, rfl⟩); rw [hM] at this; exact this
      have hws : IntKind.i64.wrap (x - x2) = x - x2 := Go.IntWalk.i64_in _ ⟨by omega, by omega⟩
      have hgl := gon_le x y (lst M k)
      have hkl := kep_le x y (lst M k)
      rw [lst_len] at hgl hkl
      have HLS : Hid (lst M (k + 1) = lst M k ++ [kT x0 x1 x2 x3]) := by rw [Hid, lst_succ, hM]; rfl
      clear hM CS hx2
      cases hlate : ltB x y (kT x0 x1 x2 x3)
      · have hd : decide (y < x - x2) = false := hlate
        have HG : Hid (gon x y (lst M (k + 1)) = gon x y (lst M k)) := by rw [Hid, HLS.out, gon_snoc, if_neg (by rw [hlate]; decide)]
        have HK : Hid (kep x y (lst M (k + 1)) = kep x y (lst M k) ++ [kT x0 x1 x2 x3]) := by rw [Hid, HLS.out, kep_snoc, if_neg (by rw [hlate]; decide)]
        have HKL : Hid ((kep x y (lst M (k + 1))).length = (kep x y (lst M k)).length + 1) := by rw [Hid, HK.out]; simp
        have HW : Hid (krow (rowL (kep x y (lst M k))) (kep x y (lst M k)).length ++ [.int .i64 x0, .int .i64 x1, .int .i64 x2, .int .i64 x3] = krow (rowL (kep x y (lst M (k + 1)))) (kep x y (lst M (k + 1))).length) := by
          rw [Hid, HKL.out, HK.out]
          exact krowL_add _ _ _ _ _
        have HA0 : Hid (0 < (gon x y (lst M k)).length → ltB x y (rowL (gon x y (lst M k)) 0) = true) := fun h => gon_at0 h
        have HB0 : Hid (ltB x y (rowL (kep x y (lst M (k + 1))) 0) = false) := kep_at0 (by rw [HKL.out]; omega)
        have hbj : b < bo + 1 := by omega
        clear hlate HK
        go_upto_region 10 with fail
        refine wp_region_held_drew (S := (fun w' => w'.cell? ⟨w.heap.size, 2, none⟩ = some (.slice (some ⟨b, off, none⟩) n c) ∧ w'.cell? ⟨b, off + k * 4, none⟩ = some (.int .i64 x0) ∧ w'.cell? ⟨b, off + k * 4 + 1, none⟩ = some (.int .i64 x1) ∧ w'.cell? ⟨b, off + k * 4 + 2, none⟩ = some (.int .i64 x2) ∧ w'.cell? ⟨b, off + k * 4 + 3, none⟩ = some (.int .i64 x3))) (by kernel_rfl) ?_ (fun hHeld => ?_)
        · first | exact ⟨n3, c0, c1, c2, c3⟩ | (simp (maxDischargeDepth := 6) [go_sem, *]; done)
        clear n0 n1 n2 n3 o0 o1 o2 o3 o4 o5 o6
        replace N := N.drew
        replace O := O.drew
        replace R := R.drew
        replace B := Below.drew B
        replace CZ := CZ.drew
        replace W := World.ownsRow.drew W
        replace GW := World.ownsRow.drew GW
        replace c0 : wr.drew.cell? _ = _ := c0
        replace c1 : wr.drew.cell? _ = _ := c1
        replace c2 : wr.drew.cell? _ = _ := c2
        replace c3 : wr.drew.cell? _ = _ := c3
        generalize wr.drew = v at *
        (obtain ⟨n0, n1, n2, n3⟩ := id N); (obtain ⟨o0, o1, o2, o3, o4, o5, o6⟩ := id O)
        refine wpAnyH_take (i := 0) (v := ?_) (by rw [List.getElem?_toArray]; rfl) (by kernel_rfl) (by kernel_rfl) (by kernel_rfl) (by intro _ _ _ h; exact h) (Or.inl ⟨by rfl, ?_⟩) (by assumption) ?_
        rotate_left
        · (intro w hSw; (try dsimp only at hSw); go_simp; all_goals with_reducible rfl)
        (try simp only [Act.put, List.setIfInBounds_toArray, List.set_cons_zero, List.set_cons_succ])
        refine wpAnyH_take (i := 2) (v := ?_) (by rw [List.getElem?_toArray]; rfl) (by kernel_rfl) (by kernel_rfl) (by kernel_rfl) (by intro _ _ _ h; exact h) (Or.inl ⟨by rfl, ?_⟩) (by assumption) ?_
        rotate_left
        · (intro w hSw; (try dsimp only at hSw); go_simp; all_goals with_reducible rfl)
        (try simp only [Act.put, List.setIfInBounds_toArray, List.set_cons_zero, List.set_cons_succ])
        refine wpAnyH_take (i := 3) (v := ?_) (by rw [List.getElem?_toArray]; rfl) (by kernel_rfl) (by kernel_rfl) (by kernel_rfl) (by intro _ _ _ h; exact h) (Or.inl ⟨by rfl, ?_⟩) (by assumption) ?_
        rotate_left
        · (intro w hSw; (try dsimp only at hSw); go_simp; all_goals with_reducible rfl)
        (try simp only [Act.put, List.setIfInBounds_toArray, List.set_cons_zero, List.set_cons_succ])
        refine wpAnyH_take (i := 4) (v := ?_) (by rw [List.getElem?_toArray]; rfl) (by kernel_rfl) (by kernel_rfl) (by kernel_rfl) (by intro _ _ _ h; exact h) (Or.inl ⟨by rfl, ?_⟩) (by assumption) ?_
        rotate_left
        · (intro w hSw; (try dsimp only at hSw); go_simp; all_goals with_reducible rfl)
        (try simp only [Act.put, List.setIfInBounds_toArray, List.set_cons_zero, List.set_cons_succ])
        refine wpAnyH_take (i := 5) (v := ?_) (by rw [List.getElem?_toArray]; rfl) (by kernel_rfl) (by kernel_rfl) (by kernel_rfl) (by intro _ _ _ h; exact h) (Or.inl ⟨by rfl, ?_⟩) (by assumption) ?_
        rotate_left
        · (intro w hSw; (try dsimp only at hSw); go_simp; all_goals with_reducible rfl)
        (try simp only [Act.put, List.setIfInBounds_toArray, List.set_cons_zero, List.set_cons_succ])
        refine wpAnyH_take (i := 6) (v := ?_) (by rw [List.getElem?_toArray]; rfl) (by kernel_rfl) (by kernel_rfl) (by kernel_rfl) (by intro _ _ _ h; exact h) (Or.inl ⟨by rfl, ?_⟩) (by assumption) ?_
        rotate_left
        · (intro w hSw; (try dsimp only at hSw); go_simp; all_goals with_reducible rfl)
        (try simp only [Act.put, List.setIfInBounds_toArray, List.set_cons_zero, List.set_cons_succ])
        refine wpAnyH_ready (rs := [1, 7]) (by kernel_rfl) (by simp) ?_
        refine (AllReadyH.cons (by rw [List.getElem?_toArray]; rfl) (fun K hK => ?_) (AllReadyH.cons (by rw [List.getElem?_toArray]; rfl) (fun K hK => ?_) AllReadyH.nil))
        · go_simp
          refine hK.out _ _ ?_ (fun hHeld => ?_)
          · first | exact ⟨n3, c0, c1, c2, c3⟩ | (simp (maxDischargeDepth := 6) [go_sem, *]; done)
          clear hK K
          (try simp only [Act.put, List.setIfInBounds_toArray, List.set_cons_zero, List.set_cons_succ])
          refine wpAnyH_ready (rs := [7]) (by kernel_rfl) (by simp) ?_
          refine (AllReadyH.cons (by rw [List.getElem?_toArray]; rfl) (fun K hK => ?_) AllReadyH.nil)
          go_simp
          (have A := Below.nw v (.cells #[.int .i64 x0, .int .i64 x1, .int .i64 x2, .int .i64 x3] 34)); (have hvz : bo + 1 ≤ v.heap.size := o0); (have HF : Hid (∀ j u, [Value.int .i64 x0, .int .i64 x1, .int .i64 x2, .int .i64 x3][j]? = some u → (v.alloc (.cells #[.int .i64 x0, .int .i64 x1, .int .i64 x2, .int .i64 x3] 34)).cell? ((⟨v.heap.size, 0, none⟩ : Addr).add j) = some u) := fun j u hu => four_at v x0 x1 x2 x3 34 j u hu); clear n0 n1 n2 n3 o0 o1 o2 o3 o4 o5 o6; (replace c0 := (A.cell (p := ⟨b, off + k * 4, none⟩) CZ.1).trans c0); (replace c1 := (A.cell (p := ⟨b, off + k * 4 + 1, none⟩) CZ.1).trans c1); (replace c2 := (A.cell (p := ⟨b, off + k * 4 + 2, none⟩) CZ.1).trans c2); (replace c3 := (A.cell (p := ⟨b, off + k * 4 + 3, none⟩) CZ.1).trans c3); (replace N := N.below A); (replace O := O.below A); (replace R := R.below A); (replace W := World.ownsRow.alloc W (.cells #[.int .i64 x0, .int .i64 x1, .int .i64 x2, .int .i64 x3] 34)); (replace GW := World.ownsRow.alloc GW (.cells #[.int .i64 x0, .int .i64 x1, .int .i64 x2, .int .i64 x3] 34)); (replace CZ := CZ.below A CZ.1); (replace B := B.trans (A.mono B.size)); (have hsz : bo + 1 ≤ (v.alloc (.cells #[.int .i64 x0, .int .i64 x1, .int .i64 x2, .int .i64 x3] 34)).heap.size := Nat.le_trans hvz A.size); (have hcsz := CZ.1); clear A; (generalize v.alloc (.cells #[.int .i64 x0, .int .i64 x1, .int .i64 x2, .int .i64 x3] 34) = v2 at *); (generalize v.heap.size = jv at *); (obtain ⟨n0, n1, n2, n3⟩ := id N); (obtain ⟨o0, o1, o2, o3, o4, o5, o6⟩ := id O)
          refine hK.out _ _ ?_ (fun hHeld => ?_)
          · first | exact ⟨n3, c0, c1, c2, c3⟩ | (simp (maxDischargeDepth := 6) [go_sem, *]; done)
          clear hK K
          (try simp only [Act.put, List.setIfInBounds_toArray, List.set_cons_zero, List.set_cons_succ])
          refine wpAnyH_ready (rs := [8]) (by kernel_rfl) (by simp) ?_
          refine (AllReadyH.cons (by rw [List.getElem?_toArray]; rfl) (fun K hK => ?_) AllReadyH.nil)
          rw [if_pos (by rfl)]; refine wp_append_own _ _ _ 24 rfl (bo + 1) 34 i0 (.agg #[.int .i64 0, .int .i64 0, .int .i64 0, .int .i64 0]) 4 32 Try.underlying24 hi hz0 hz1 hz2 rfl (by decide) _ _ _ rfl W ⟨jv, 0, none⟩ 1 1 [.int .i64 x0, .int .i64 x1, .int .i64 x2, .int .i64 x3] rfl rfl HF.out (four_one _ _ _ _) (by unfold maxLen; omega) (by omega) hsz ?_; intro v' wn hown' hgrow _; (have G := grown_belowK W hgrow hsz); clear n0 n1 n2 n3 o0 o1 o2 o3 o4 o5 o6; (replace c0 := (G.cell (p := ⟨b, off + k * 4, none⟩) hbj).trans c0); (replace c1 := (G.cell (p := ⟨b, off + k * 4 + 1, none⟩) hbj).trans c1); (replace c2 := (G.cell (p := ⟨b, off + k * 4 + 2, none⟩) hbj).trans c2); (replace c3 := (G.cell (p := ⟨b, off + k * 4 + 3, none⟩) hbj).trans c3); (replace N := N.belB G (by omega)); (replace O := O.belB G (by omega)); (replace R := R.belB G (by omega)); (replace CZ := CZ.below G hbj); (replace GW := World.ownsRow.kept GW hgrow (ne_own (fun g h1 h2 => HGD.out g h2 h1))); (replace B := B.trans (G.mono (by omega))); rw [HW.out] at hown'; (replace hown' : wn.ownsRow (bo + 1) 34 4 v' (kep x y (lst M (k + 1))).length (krow (rowL (kep x y (lst M (k + 1)))) (kep x y (lst M (k + 1))).length) := by rw [HKL.out] at *; exact hown'); (obtain ⟨a', c', rfl, _, _, _⟩ := ownF_src hown'); clear hgrow HF; (obtain ⟨n0, n1, n2, n3⟩ := id N); (obtain ⟨o0, o1, o2, o3, o4, o5, o6⟩ := id O)
          refine hK.out _ _ ?_ (fun hHeld => ?_)
          · first | exact ⟨n3, c0, c1, c2, c3⟩ | (simp (maxDischargeDepth := 6) [go_sem, *]; done)
          clear hK K
          (try simp only [Act.put, List.setIfInBounds_toArray, List.set_cons_zero, List.set_cons_succ])
          refine wpAnyH_take (i := 9) (v := ?_) (by rw [List.getElem?_toArray]; rfl) (by kernel_rfl) (by kernel_rfl) (by kernel_rfl) (by intro _ _ _ h; exact h) (Or.inl ⟨by rfl, ?_⟩) (by assumption) ?_
          rotate_left
          · (intro w hSw; (try dsimp only at hSw); go_simp; all_goals with_reducible rfl)
          (try simp only [Act.put, List.setIfInBounds_toArray, List.set_cons_zero, List.set_cons_succ])
          refine wpAnyH_ready (rs := [10]) (by kernel_rfl) (by simp) ?_
          refine (AllReadyH.cons (by rw [List.getElem?_toArray]; rfl) (fun K hK => ?_) AllReadyH.nil)
          go_simp
          refine hK.out _ _ ?_ (fun hHeld => ?_)
          · first | exact ⟨n3, c0, c1, c2, c3⟩ | (simp (maxDischargeDepth := 6) [go_sem, *]; done)
          clear hK K
          (try simp only [Act.put, List.setIfInBounds_toArray, List.set_cons_zero, List.set_cons_succ])
          refine wpAnyH_done (by kernel_rfl) ?_ _
          go_wp2_with fail
          have PB := But.oneK wn bo 2 (.slice a' (kep x y (lst M (k + 1))).length c')
          have ND : ∀ g, (Value.slice ag (gon x y (lst M k)).length cg).ownBlock = some g → (Value.slice a' (kep x y (lst M (k + 1))).length c').ownBlock ≠ some g := by
            by_cases h0 : 0 < (gon x y (lst M k)).length
            · exact own_two GW hown' h0 (by rw [HKL.out]; omega) (lt_at (HA0.out h0) HB0.out)
            · intro g hg hv
              have e1 := HAG.out (by omega)
              have e2 := own_at GW e1
              rw [hg] at e2
              injection e2 with e2
              have := (World.ownsRow.lt hown' g hv).1
              omega
          have HRL : Hid (ExInv ep us x y M w ⟨b, off, none⟩ n c bo (k + 1) (.slice ag (gon x y (lst M k)).length cg) (wn.setCell ⟨bo, 2, none⟩ (.slice a' (kep x y (lst M (k + 1))).length c'))) := by
            rw [Hid, ExInv, HG.out]
            exact ⟨ag, cg, a', c', rfl, O.set2 _, own_butK hown' PB (by omega), fun h => absurd h (by rw [HKL.out]; omega), own_neK GW PB (fun g hg => HGB.out g hg), HAG.out, HGB.out, ND, N.but PB (by omega), R.but PB (by omega), .inr ⟨rfl, CZ.but PB (by omega)⟩, B.trans (PB.below (by omega) B.size)⟩
          go_roundw
          case rel => exact ⟨k + 1, by omega, by go_num, HRL.out⟩
          case measure => simp [vI]; omega
        · go_simp
          (have A := Below.nw v (.cells #[.int .i64 x0, .int .i64 x1, .int .i64 x2, .int .i64 x3] 34)); (have hvz : bo + 1 ≤ v.heap.size := o0); (have HF : Hid (∀ j u, [Value.int .i64 x0, .int .i64 x1, .int .i64 x2, .int .i64 x3][j]? = some u → (v.alloc (.cells #[.int .i64 x0, .int .i64 x1, .int .i64 x2, .int .i64 x3] 34)).cell? ((⟨v.heap.size, 0, none⟩ : Addr).add j) = some u) := fun j u hu => four_at v x0 x1 x2 x3 34 j u hu); clear n0 n1 n2 n3 o0 o1 o2 o3 o4 o5 o6; (replace c0 := (A.cell (p := ⟨b, off + k * 4, none⟩) CZ.1).trans c0); (replace c1 := (A.cell (p := ⟨b, off + k * 4 + 1, none⟩) CZ.1).trans c1); (replace c2 := (A.cell (p := ⟨b, off + k * 4 + 2, none⟩) CZ.1).trans c2); (replace c3 := (A.cell (p := ⟨b, off + k * 4 + 3, none⟩) CZ.1).trans c3); (replace N := N.below A); (replace O := O.below A); (replace R := R.below A); (replace W := World.ownsRow.alloc W (.cells #[.int .i64 x0, .int .i64 x1, .int .i64 x2, .int .i64 x3] 34)); (replace GW := World.ownsRow.alloc GW (.cells #[.int .i64 x0, .int .i64 x1, .int .i64 x2, .int .i64 x3] 34)); (replace CZ := CZ.below A CZ.1); (replace B := B.trans (A.mono B.size)); (have hsz : bo + 1 ≤ (v.alloc (.cells #[.int .i64 x0, .int .i64 x1, .int .i64 x2, .int .i64 x3] 34)).heap.size := Nat.le_trans hvz A.size); (have hcsz := CZ.1); clear A; (generalize v.alloc (.cells #[.int .i64 x0, .int .i64 x1, .int .i64 x2, .int .i64 x3] 34) = v2 at *); (generalize v.heap.size = jv at *); (obtain ⟨n0, n1, n2, n3⟩ := id N); (obtain ⟨o0, o1, o2, o3, o4, o5, o6⟩ := id O)
          refine hK.out _ _ ?_ (fun hHeld => ?_)
          · first | exact ⟨n3, c0, c1, c2, c3⟩ | (simp (maxDischargeDepth := 6) [go_sem, *]; done)
          clear hK K
          (try simp only [Act.put, List.setIfInBounds_toArray, List.set_cons_zero, List.set_cons_succ])
          refine wpAnyH_ready (rs := [1]) (by kernel_rfl) (by simp) ?_
          refine (AllReadyH.cons (by rw [List.getElem?_toArray]; rfl) (fun K hK => ?_) AllReadyH.nil)
          go_simp
          refine hK.out _ _ ?_ (fun hHeld => ?_)
          · first | exact ⟨n3, c0, c1, c2, c3⟩ | (simp (maxDischargeDepth := 6) [go_sem, *]; done)
          clear hK K
          (try simp only [Act.put, List.setIfInBounds_toArray, List.set_cons_zero, List.set_cons_succ])
          refine wpAnyH_ready (rs := [8]) (by kernel_rfl) (by simp) ?_
          refine (AllReadyH.cons (by rw [List.getElem?_toArray]; rfl) (fun K hK => ?_) AllReadyH.nil)
          rw [if_pos (by rfl)]; refine wp_append_own _ _ _ 24 rfl (bo + 1) 34 i0 (.agg #[.int .i64 0, .int .i64 0, .int .i64 0, .int .i64 0]) 4 32 Try.underlying24 hi hz0 hz1 hz2 rfl (by decide) _ _ _ rfl W ⟨jv, 0, none⟩ 1 1 [.int .i64 x0, .int .i64 x1, .int .i64 x2, .int .i64 x3] rfl rfl HF.out (four_one _ _ _ _) (by unfold maxLen; omega) (by omega) hsz ?_; intro v' wn hown' hgrow _; (have G := grown_belowK W hgrow hsz); clear n0 n1 n2 n3 o0 o1 o2 o3 o4 o5 o6; (replace c0 := (G.cell (p := ⟨b, off + k * 4, none⟩) hbj).trans c0); (replace c1 := (G.cell (p := ⟨b, off + k * 4 + 1, none⟩) hbj).trans c1); (replace c2 := (G.cell (p := ⟨b, off + k * 4 + 2, none⟩) hbj).trans c2); (replace c3 := (G.cell (p := ⟨b, off + k * 4 + 3, none⟩) hbj).trans c3); (replace N := N.belB G (by omega)); (replace O := O.belB G (by omega)); (replace R := R.belB G (by omega)); (replace CZ := CZ.below G hbj); (replace GW := World.ownsRow.kept GW hgrow (ne_own (fun g h1 h2 => HGD.out g h2 h1))); (replace B := B.trans (G.mono (by omega))); rw [HW.out] at hown'; (replace hown' : wn.ownsRow (bo + 1) 34 4 v' (kep x y (lst M (k + 1))).length (krow (rowL (kep x y (lst M (k + 1)))) (kep x y (lst M (k + 1))).length) := by rw [HKL.out] at *; exact hown'); (obtain ⟨a', c', rfl, _, _, _⟩ := ownF_src hown'); clear hgrow HF; (obtain ⟨n0, n1, n2, n3⟩ := id N); (obtain ⟨o0, o1, o2, o3, o4, o5, o6⟩ := id O)
          refine hK.out _ _ ?_ (fun hHeld => ?_)
          · first | exact ⟨n3, c0, c1, c2, c3⟩ | (simp (maxDischargeDepth := 6) [go_sem, *]; done)
          clear hK K
          (try simp only [Act.put, List.setIfInBounds_toArray, List.set_cons_zero, List.set_cons_succ])
          refine wpAnyH_take (i := 9) (v := ?_) (by rw [List.getElem?_toArray]; rfl) (by kernel_rfl) (by kernel_rfl) (by kernel_rfl) (by intro _ _ _ h; exact h) (Or.inl ⟨by rfl, ?_⟩) (by assumption) ?_
          rotate_left
          · (intro w hSw; (try dsimp only at hSw); go_simp; all_goals with_reducible rfl)
          (try simp only [Act.put, List.setIfInBounds_toArray, List.set_cons_zero, List.set_cons_succ])
          refine wpAnyH_ready (rs := [10]) (by kernel_rfl) (by simp) ?_
          refine (AllReadyH.cons (by rw [List.getElem?_toArray]; rfl) (fun K hK => ?_) AllReadyH.nil)
          go_simp
          refine hK.out _ _ ?_ (fun hHeld => ?_)
          · first | exact ⟨n3, c0, c1, c2, c3⟩ | (simp (maxDischargeDepth := 6) [go_sem, *]; done)
          clear hK K
          (try simp only [Act.put, List.setIfInBounds_toArray, List.set_cons_zero, List.set_cons_succ])
          refine wpAnyH_done (by kernel_rfl) ?_ _
          go_wp2_with fail
          have PB := But.oneK wn bo 2 (.slice a' (kep x y (lst M (k + 1))).length c')
          have ND : ∀ g, (Value.slice ag (gon x y (lst M k)).length cg).ownBlock = some g → (Value.slice a' (kep x y (lst M (k + 1))).length c').ownBlock ≠ some g := by
            by_cases h0 : 0 < (gon x y (lst M k)).length
            · exact own_two GW hown' h0 (by rw [HKL.out]; omega) (lt_at (HA0.out h0) HB0.out)
            · intro g hg hv
              have e1 := HAG.out (by omega)
              have e2 := own_at GW e1
              rw [hg] at e2
              injection e2 with e2
              have := (World.ownsRow.lt hown' g hv).1
              omega
          have HRL : Hid (ExInv ep us x y M w ⟨b, off, none⟩ n c bo (k + 1) (.slice ag (gon x y (lst M k)).length cg) (wn.setCell ⟨bo, 2, none⟩ (.slice a' (kep x y (lst M (k + 1))).length c'))) := by
            rw [Hid, ExInv, HG.out]
            exact ⟨ag, cg, a', c', rfl, O.set2 _, own_butK hown' PB (by omega), fun h => absurd h (by rw [HKL.out]; omega), own_neK GW PB (fun g hg => HGB.out g hg), HAG.out, HGB.out, ND, N.but PB (by omega), R.but PB (by omega), .inr ⟨rfl, CZ.but PB (by omega)⟩, B.trans (PB.below (by omega) B.size)⟩
          go_roundw
          case rel => exact ⟨k + 1, by omega, by go_num, HRL.out⟩
          case measure => simp [vI]; omega
      · have hd : decide (y < x - x2) = true := hlate
        have HG : Hid (gon x y (lst M (k + 1)) = gon x y (lst M k) ++ [kT x0 x1 x2 x3]) := by rw [Hid, HLS.out, gon_snoc, if_pos hlate]
        have HK : Hid (kep x y (lst M (k + 1)) = kep x y (lst M k)) := by rw [Hid, HLS.out, kep_snoc, if_pos hlate]
        have HGL : Hid ((gon x y (lst M (k + 1))).length = (gon x y (lst M k)).length + 1) := by rw [Hid, HG.out]; simp
        have HW : Hid (krow (rowL (gon x y (lst M k))) (gon x y (lst M k)).length ++ [.int .i64 x0, .int .i64 x1, .int .i64 x2, .int .i64 x3] = krow (rowL (gon x y (lst M (k + 1)))) (gon x y (lst M (k + 1))).length) := by
          rw [Hid, HGL.out, HG.out]
          exact krowL_add _ _ _ _ _
        have HA0 : Hid (ltB x y (rowL (gon x y (lst M (k + 1))) 0) = true) := gon_at0 (by rw [HGL.out]; omega)
        have HB0 : Hid (0 < (kep x y (lst M k)).length → ltB x y (rowL (kep x y (lst M k)) 0) = false) := fun h => kep_at0 h
        have hcz := CZ.1
        clear hlate HG
        have A6 := Below.nw wr (.cells #[.int .i64 x0, .int .i64 x1, .int .i64 x2, .int .i64 x3] 34)
        have W6 := World.ownsRow.alloc GW (.cells #[.int .i64 x0, .int .i64 x1, .int .i64 x2, .int .i64 x3] 34)
        have hwz : w.heap.size + 2 ≤ wr.heap.size := by omega
        have HN : Hid (∀ j u, [Value.int .i64 x0, .int .i64 x1, .int .i64 x2, .int .i64 x3][j]? = some u → (wr.alloc (.cells #[.int .i64 x0, .int .i64 x1, .int .i64 x2, .int .i64 x3] 34)).cell? ((⟨wr.heap.size, 0, none⟩ : Addr).add j) = some u) := fun j u hu => four_at wr x0 x1 x2 x3 34 j u hu
        go_wp2_with (at_builtin; refine wpList_append_own _ rfl _ _ 24 rfl (w.heap.size + 2) 34 i0 (.agg #[.int .i64 0, .int .i64 0, .int .i64 0, .int .i64 0]) 4 32 Try.underlying24 hi hz0 hz1 hz2 rfl (by decide) _ _ _ rfl W6 ⟨wr.heap.size, 0, none⟩ 1 1 [.int .i64 x0, .int .i64 x1, .int .i64 x2, .int .i64 x3] rfl rfl HN.out (four_one _ _ _ _) ?c3 ?c4 ?c5 ?_)
        case c3 => unfold maxLen; omega
        case c4 => omega
        case c5 => first | omega | (simp; omega)
        intro v' wn hown' hgrow _
        rw [HW.out] at hown'
        replace hown' : wn.ownsRow (w.heap.size + 2) 34 4 v' (gon x y (lst M (k + 1))).length (krow (rowL (gon x y (lst M (k + 1)))) (gon x y (lst M (k + 1))).length) := by rw [HGL.out] at *; exact hown'
        have GL : ∀ g, (Value.slice ag (gon x y (lst M k)).length cg).ownBlock = some g → w.heap.size + 2 ≤ g := fun g hg => (World.ownsRow.lt GW g hg).1
        clear n0 n1 n2 n3 o0 o1 o2 o3 o4 o5 o6 c0 c1 c2 c3
        replace N := (N.below A6).kept hgrow (fun e => by have := GL _ e.symm; omega)
        replace R := (R.below A6).kept3 hgrow (fun e => by have := GL _ e.symm; omega)
        replace O := (O.below A6).kept3 hgrow (fun e => HGB.out _ e.symm rfl)
        replace W := World.ownsRow.kept (World.ownsRow.alloc W (.cells #[.int .i64 x0, .int .i64 x1, .int .i64 x2, .int .i64 x3] 34)) hgrow (ne_own (fun g h1 h2 => HGD.out g h1 h2))
        replace CZ := (CZ.below A6 hcz).kept hgrow (fun e => by have := GL _ e.symm; omega)
        replace B := (B.trans (A6.mono B.size)).trans (grown_bel hgrow (B.trans (A6.mono B.size)).size (fun q h e => by have := GL _ e.symm; omega))
        obtain ⟨a', c', rfl, _, _, _⟩ := ownF_src hown'
        have hgp : 0 < (gon x y (lst M (k + 1))).length := by rw [HGL.out]; omega
        have HRL : Hid (ExInv ep us x y M w ⟨b, off, none⟩ n c bo (k + 1) (.slice a' (gon x y (lst M (k + 1))).length c') wn) := by
          rw [Hid, ExInv, HK.out]
          refine ⟨a', c', ao, co, rfl, O, W, HAO.out, hown', fun h => absurd h (by omega), no_box hown' hgp O, ?_, N, R, .inr ⟨rfl, CZ⟩, B⟩
          by_cases h0 : 0 < (kep x y (lst M k)).length
          · exact own_two hown' W hgp h0 (lt_at HA0.out (HB0.out h0))
          · intro g hg
            have e1 := HAO.out (by omega)
            subst e1
            simp [Value.ownBlock]
        clear A6 W6 HN HW hgrow GW N R O W CZ B hown'
        go_wp2_with fail
        go_roundw
        case rel => exact ⟨k + 1, by omega, by go_num, HRL.out⟩
        case measure => simp [vI]; omega
    · have hkn : k = n := by omega
      subst hkn
      have hli : decide ((k : Int) < (k : Int)) = false := decide_eq_false (by omega)
      have hjo : bo < wr.heap.size := O.1
      have RQ := R.set (.int .i64 ep) (.int .i64 us) (.slice ao (kep x y (lst M k)).length co)
      have PB := put3_butK wr (w.heap.size + 1) (.int .i64 ep) (.int .i64 us) (.slice ao (kep x y (lst M k)).length co)
      have BQ := B.trans (PB.below (B := w.heap.size) (by omega) B.size)
      have OQ := ownK_le (base' := w.heap.size) (own_butK W PB (by omega)) (by omega)
      have SQ := ownK_le (base' := w.heap.size) (own_butK GW PB (by omega)) (by omega)
      have KZ : Hid (_ ∧ _ ∧ _) := ⟨OQ, SQ, BQ⟩
      obtain ⟨r0, r1, r2, r3, r4, r5, r6⟩ := R
      clear PB OQ SQ BQ
      go_wp2_with fail
      generalize (((wr.setCell ⟨w.heap.size + 1, 0, none⟩ (.int .i64 ep)).setCell ⟨w.heap.size + 1, 1, none⟩ (.int .i64 us)).setCell ⟨w.heap.size + 1, 2, none⟩ (.slice ao (kep x y (lst M k)).length co)) = wq at *
      obtain ⟨q0, q1, q2, q3, q4, q5, q6⟩ := RQ
      exact bodyPost_ret (v := .tuple #[.agg #[.int .i64 ep, .int .i64 us, .slice ao (kep x y (lst M k)).length co], .slice ag (gon x y (lst M k)).length cg]) (by simp (maxDischargeDepth := 6) [results, Try.results27, go_sem, q1, q2, q3]) rfl ⟨_, _, _, _, rfl, KZ.out⟩
end Go.Proofs.Ytlaladalnbdhpaa
