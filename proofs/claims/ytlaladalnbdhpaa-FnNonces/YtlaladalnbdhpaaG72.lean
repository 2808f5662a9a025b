/- The contract of spec.Again. -/
import Derived.Test.YtlaladalnbdhpaaH72
import Derived.Test.YtlaladalnbdhpaaF9
import Derived.Test.YtlaladalnbdhpaaC8
import Derived.Test.YtlaladalnbdhpaaB7
import Derived.Deep.RegionHeld3
import Derived.Deep.DeepCutAuto
import Derived.WalkKit
import Derived.WalkSpells
import Derived.WalkLawsBesides
import Derived.Deep.RegionHeld
namespace Go.Proofs.Ytlaladalnbdhpaa
open Go.RowKit
set_option linter.unusedVariables false
/- An append to a row of one's own, with what is known of its block: it is the old one, or new. -/
theorem run_append_new {P : Program} (w : World) (base : Nat) (t ty e : TypeId) (i : TypeInfo) (z : Value) (size bytes : Nat) (ht : P.underlying t = some (.slice e)) (hi : P.info? e = some i) (hz : i.zero = some z)
    (hsize : i.size = size) (hby : i.bytes = bytes) (hzs : z.cells.size = size) (hsz : 0 < size)
    (v : Value) (n : Nat) (xs : List Value) (hown : w.ownsRow base e size v n xs)
    (a : Addr) (m c : Nat) (news : List Value) (hl : news.length = m * size) (hnews : ∀ j u, news[j]? = some u → w.cell? (a.add j) = some u) (h1 : ∀ u ∈ news, u.oneCell' = true)
    (h63 : n + m ≤ maxLen) (hbytes : (n + m) * bytes ≤ 140737488355328) (hbase : base ≤ w.heap.size) :
    ∃ v' w', (Builtin.append_ #[t, t] ty #[v, .slice (some a) m c]).run P w = .ok v' w' ∧ w'.ownsRow base e size v' (n + m) (xs ++ news) ∧ w.grownBy w' v.ownBlock ∧ (∀ g, v'.ownBlock = some g → v.ownBlock = some g ∨ w.heap.size ≤ g) := by
  obtain ⟨v', w', hr, h2, h3, _⟩ := run_append_own (P := P) w base t ty e i z size bytes ht hi hz hsize hby hzs hsz v n xs hown a m c news hl hnews h1 h63 hbytes hbase
  refine ⟨v', w', hr, h2, h3, ?_⟩
  subst hsize
  subst hby
  intro g0 hg0
  have hsmall : n + m ≤ 9223372036854775807 := by simp only [maxLen] at h63; omega
  rcases hown.2 with ⟨rfl, rfl⟩ | ⟨g, cap, cur, rfl, hbg, hg, hnc, hcm, hcs, htake⟩
  · by_cases hm : m = 0
    · subst hm
      obtain ⟨v2, w2, hr2, _, _, h4⟩ := run_append_own (P := P) w base t ty e i z i.size i.bytes ht hi hz rfl rfl hzs hsz _ 0 xs hown a 0 c news hl hnews h1 h63 hbytes hbase
      rw [hr] at hr2
      injection hr2 with e1 _
      rw [e1, h4.2 ⟨rfl, rfl⟩] at hg0
      simp [Value.ownBlock] at hg0
    · have hr2 := run_append_nil (P := P) w t ty e i z ht hi hz a m c news hl hnews (by omega) (by omega) (by have hb := hbytes; simp only [Nat.zero_add] at hb; omega)
      rw [hr] at hr2
      injection hr2 with e1 _
      rw [e1] at hg0
      simp [Value.ownBlock] at hg0
      exact .inr (by omega)
  · by_cases hroom : n + m ≤ cap
    · have hfit : n * i.size + news.length ≤ cur.size := by rw [hl, hcs, ← Nat.add_mul]; exact Nat.mul_le_mul_right _ hroom
      have hr2 := run_append_room (P := P) w t ty e i ht hi g n cap cur hg a m c news hl hnews h1 hroom hfit
      rw [hr] at hr2
      injection hr2 with e1 _
      rw [e1] at hg0
      exact .inl hg0
    · have holds : ∀ j u, xs[j]? = some u → w.cell? ((⟨g, 0, none⟩ : Addr).add j) = some u := hown.cells (g := g) rfl
      have hr2 := run_append_grow (P := P) w t ty e i z ht hi hz ⟨g, 0, none⟩ n cap xs hown.1 holds a m c news hl hnews (by omega) (by omega) (growslice_fits (by omega) hbytes)
      rw [hr] at hr2
      injection hr2 with e1 _
      rw [e1] at hg0
      simp [Value.ownBlock] at hg0
      exact .inr (by omega)
theorem wpList_append_new {P : Program} {w : World} {ops : Array Oper} {rest : List Oper} {o : Oper} {a : Act} {Q : Exit → Act → World → Prop} (hgd : o.guard = none) (s x : Operand) (t : TypeId)
    (ho : o.op = .call { callee := .builtin .append, args := #[s, x], argTypes := #[t, t] })
    (base : Nat) (e : TypeId) (i : TypeInfo) (z : Value) (size bytes : Nat) (ht : P.underlying t = some (.slice e)) (hi : P.info? e = some i) (hz : i.zero = some z)
    (hsize : i.size = size) (hby : i.bytes = bytes) (hzs : z.cells.size = size) (hsz : 0 < size)
    (v : Value) (n : Nat) (xs : List Value) (hs : a.eval s = v) (hown : w.ownsRow base e size v n xs)
    (ad : Addr) (m c : Nat) (news : List Value) (hx : a.eval x = .slice (some ad) m c) (hl : news.length = m * size) (hnews : ∀ j u, news[j]? = some u → w.cell? (ad.add j) = some u) (h1 : ∀ u ∈ news, u.oneCell' = true)
    (h63 : n + m ≤ maxLen) (hbytes : (n + m) * bytes ≤ 140737488355328) (hbase : base ≤ w.heap.size)
    (h : ∀ v' w', w'.ownsRow base e size v' (n + m) (xs ++ news) → w.grownBy w' v.ownBlock → (∀ g, v'.ownBlock = some g → v.ownBlock = some g ∨ w.heap.size ≤ g) → wpList P ops Q rest (a.put o.dst v') w') : wpList P ops Q (o :: rest) a w := by
  refine wpList_plain hgd fun _ hK => ?_
  obtain ⟨v', w', hr, h2, h3, h4⟩ := run_append_new (P := P) w base t o.type e i z size bytes ht hi hz hsize hby hzs hsz v n xs hown ad m c news hl hnews h1 h63 hbytes hbase
  unfold Oper.wp execOp
  simp only [ho, resolve, invoke, builtin, Sem.run_bind, Sem.run_pure, Result.andThen_ok, List.map_toArray, List.map_cons, List.map_nil, hs, hx, hr]
  exact hK _ _ (h v' w' h2 h3 h4)
theorem put4_butK (w : World) (j : Nat) (a b c d : Int) : But j w (put4 w j a b c d) := ((((But.refl j w).setCell 0 _).setCell 1 _).setCell 2 _).setCell 3 _
theorem krow_addL (L : List KT) (a : KT) (m : Nat) : krow (addG (rowL L) L.length a) m = krow (rowL (L ++ [a])) m := by
  have e : addG (rowL L) L.length a = rowL (L ++ [a]) := by funext j; rw [rowL_app]; rfl
  rw [e]
def Ap (u v : Value) : Prop := ∀ g, u.ownBlock = some g → v.ownBlock ≠ some g
theorem Ap.symm {u v : Value} (h : Ap u v) : Ap v u := fun g a b => h g b a
/- The state of the specification's loop. -/
def AsInv (ep x y : Int) (M : Nat → KT) (n : Nat) (w : World) (bo : Nat) (a1 : Option Addr) (cl ll : List KT) (u : Int) (vc vl : Value) (wr : World) : Prop := ∃ ac cc al cl' ao co, vc = .slice ac cl.length cc ∧ vl = .slice al ll.length cl' ∧ Bx3 wr bo (.int .i64 ep) (.int .i64 u) (.slice ao ((kep x y (lst M n)).length + cl.length) co) ∧ wr.ownsRow (w.heap.size + 2) 34 4 (.slice ao ((kep x y (lst M n)).length + cl.length) co) ((kep x y (lst M n)).length + cl.length) (krow (rowL ((kep x y (lst M n)) ++ cl)) ((kep x y (lst M n)).length + cl.length)) ∧ wr.ownsRow (bo + 1) 34 4 vc cl.length (krow (rowL cl) cl.length) ∧ wr.ownsRow (bo + 1) 34 4 vl ll.length (krow (rowL ll) ll.length) ∧ Ap vc vl ∧ Ap vc (.slice ao ((kep x y (lst M n)).length + cl.length) co) ∧ Ap vl (.slice ao ((kep x y (lst M n)).length + cl.length) co) ∧ (∀ g, Value.ownBlock (.slice ao ((kep x y (lst M n)).length + cl.length) co) = some g → g ≠ bo) ∧ SrcC wr a1 ((gon x y (lst M n)).length * 4) (MFAsk (rowL (gon x y (lst M n)))) ∧ Bx3 wr (w.heap.size + 1) (.int .i64 0) (.int .i64 0) (.slice none 0 0) ∧ Below w.heap.size w wr
set_option maxRecDepth 100000 in
set_option maxHeartbeats 8000000 in
theorem specAgain_bad (ep us : Int) (ad : Addr) (n c : Nat) (M : Nat → KT) (x y : Int) (w : World) (hm : n ≤ maxLen) (hf : Froms w ad M n) (hbad : (tabB ep us M n && tmB x && tmB y) = false) :
    Calls Try.prog 9 #[.agg #[.int .i64 ep, .int .i64 us, .slice (some ad) n c], .int .i64 x, .int .i64 y] w fun e w' => ∃ a' c' a1 c1 a2 c2, e = .returned (.tuple #[.agg #[.int .i64 0, .int .i64 0, .slice a' 0 c'], .slice a1 0 c1, .slice a2 0 c2]) ∧ w'.ownsRow w.heap.size 34 4 (.slice a' 0 c') 0 (krow (M) 0) ∧ w'.ownsRow w.heap.size 34 4 (.slice a1 0 c1) 0 (krow (M) 0) ∧ w'.ownsRow w.heap.size 34 4 (.slice a2 0 c2) 0 (krow (M) 0) ∧ Below w.heap.size w w' := by
  have A1 := Below.nw w (.cells #[.int .i64 ep, .int .i64 us, .slice (some ad) n c] 26)
  have A2 := Below.nw (w.alloc (.cells #[.int .i64 ep, .int .i64 us, .slice (some ad) n c] 26)) (.cells #[.int .i64 0, .int .i64 0, .slice none 0 0] 26)
  have N := (IB3.new w ep us (some ad) n c 26).below A2
  have R := Bx3.new (w.alloc (.cells #[.int .i64 ep, .int .i64 us, .slice (some ad) n c] 26)) (.int .i64 0) (.int .i64 0) (.slice none 0 0) 26
  have CS := (hf.below A1).below A2
  have B := A1.trans (A2.mono A1.size)
  have hJ2 : ((w.alloc (.cells #[.int .i64 ep, .int .i64 us, .slice (some ad) n c] 26)).alloc (.cells #[.int .i64 0, .int .i64 0, .slice none 0 0] 26)).heap.size = w.heap.size + 2 := by simp
  simp only [World.size_alloc] at R
  have C := specExpire_bad ep us ad n c M x y _ hm CS hbad
  clear hf A1 A2 CS
  go_enter Try.func9, Try.ntmps9
  go_upto_region 1 with fail
  generalize (w.alloc (.cells #[.int .i64 ep, .int .i64 us, .slice (some ad) n c] 26)).alloc (.cells #[.int .i64 0, .int .i64 0, .slice none 0 0] 26) = wa at *
  obtain ⟨n9, n0, n1, n2⟩ := id N
  go_wp2_with fail
  refine C.mono ?_
  rintro e wz ⟨a', c', a1, c1, rfl, OT, OG, hb⟩
  clear n9 n0 n1 n2 N
  replace R := R.below hb
  replace B := B.trans (hb.mono B.size)
  have hsz := hb.size
  rw [hJ2] at hsz OT OG
  clear hb C hJ2
  have A3 := Below.nw wz (.cells #[.int .i64 0, .int .i64 0, .slice a' 0 c'] 26)
  have O := Bx3.new wz (.int .i64 0) (.int .i64 0) (.slice a' 0 c') 26
  have A4 := Below.nw (wz.alloc (.cells #[.int .i64 0, .int .i64 0, .slice a' 0 c'] 26)) (.cells #[] 34)
  have A5 := Below.nw ((wz.alloc (.cells #[.int .i64 0, .int .i64 0, .slice a' 0 c'] 26)).alloc (.cells #[] 34)) (.cells #[] 34)
  have AA := (A3.trans (A4.mono A3.size)).trans (A5.mono (A3.trans (A4.mono A3.size)).size)
  have E1 := World.ownsRow_made (base := wz.heap.size + 1) (size := 4) (e := 34) (wz.alloc (.cells #[.int .i64 0, .int .i64 0, .slice a' 0 c'] 26)) #[] 0 (by simp) (by simp [maxLen]) (by simp)
  have E2 := World.ownsRow_made (base := wz.heap.size + 1) (size := 4) (e := 34) ((wz.alloc (.cells #[.int .i64 0, .int .i64 0, .slice a' 0 c'] 26)).alloc (.cells #[] 34)) #[] 0 (by simp) (by simp [maxLen]) (by simp)
  have z1 : (wz.alloc (.cells #[.int .i64 0, .int .i64 0, .slice a' 0 c'] 26)).heap.size = wz.heap.size + 1 := by simp
  have z2 : ((wz.alloc (.cells #[.int .i64 0, .int .i64 0, .slice a' 0 c'] 26)).alloc (.cells #[] 34)).heap.size = wz.heap.size + 1 + 1 := by simp
  rw [z1] at E1
  rw [z2] at E2
  replace E1 := own_belK' E1 A5
  replace O := (O.below A4).below A5
  replace R := R.below AA
  replace OT := own_belK' OT AA
  replace OG := own_belK' OG AA
  replace B := B.trans (AA.mono B.size)
  clear A3 A4 A5 AA z1 z2
  go_upto_region 3 with fail
  generalize hbo : wz.heap.size = bo at *
  generalize ((wz.alloc (.cells #[.int .i64 0, .int .i64 0, .slice a' 0 c'] 26)).alloc (.cells #[] 34)).alloc (.cells #[] 34) = v1 at *
  go_wp2_with fail
  go_loopw [11, 12, 13] (fun s11 s12 s13 wr => s11 = .slice (some ⟨bo + 1, 0, none⟩) 0 0 ∧ s12 = .slice (some ⟨bo + 1 + 1, 0, none⟩) 0 0 ∧ s13 = .int .i64 0 ∧ wr = v1) (fun _ _ _ _ => 0)
  case atStart => exact ⟨rfl, rfl, rfl, rfl⟩
  case round =>
    obtain ⟨rfl, rfl, rfl, rfl⟩ := hrel
    obtain ⟨o0, o1, o2, o3, o4, o5, o6⟩ := id O
    have RQ := R.set (.int .i64 0) (.int .i64 0) (.slice a' 0 c')
    have PB := put3_butK wr (w.heap.size + 1) (.int .i64 0) (.int .i64 0) (.slice a' 0 c')
    have BQ := B.trans (PB.below (B := w.heap.size) (by omega) B.size)
    have OQ := ownK_le (base' := w.heap.size) (own_butK OT PB (by omega)) (by omega)
    have SQ := ownK_le (base' := w.heap.size) (own_butK E1 PB (by omega)) (by omega)
    have SQ2 := ownK_le (base' := w.heap.size) (own_butK E2 PB (by omega)) (by omega)
    have KZ : Hid (_ ∧ _ ∧ _ ∧ _) := ⟨OQ, SQ, SQ2, BQ⟩
    obtain ⟨r0, r1, r2, r3, r4, r5, r6⟩ := R
    clear PB OQ SQ SQ2 BQ
    go_wp2_with fail
    generalize (((wr.setCell ⟨w.heap.size + 1, 0, none⟩ (.int .i64 0)).setCell ⟨w.heap.size + 1, 1, none⟩ (.int .i64 0)).setCell ⟨w.heap.size + 1, 2, none⟩ (.slice a' 0 c')) = wq at *
    obtain ⟨q0, q1, q2, q3, q4, q5, q6⟩ := RQ
    exact bodyPost_ret (v := .tuple #[.agg #[.int .i64 0, .int .i64 0, .slice a' 0 c'], .slice (some ⟨bo + 1, 0, none⟩) 0 0, .slice (some ⟨bo + 1 + 1, 0, none⟩) 0 0]) (by simp (maxDischargeDepth := 6) [results, Try.results9, go_sem, q1, q2, q3]) rfl ⟨_, _, _, _, _, _, rfl, KZ.out⟩
set_option maxRecDepth 100000 in
set_option maxHeartbeats 16000000 in
theorem specAgain_done (ep us : Int) (ad : Addr) (n c : Nat) (M : Nat → KT) (x y : Int) (w : World) (hm : n ≤ maxLen) (hf : Froms w ad M n) (ht : tabB ep us M n = true) (h1 : tmB x = true) (h2 : tmB y = true) (HBW : Hid (ad.block < w.heap.size)) (U : Int) (CL LL TL : List KT) (hagE : Hid (ag ep x us (gon x y (lst M n)) (gon x y (lst M n)).length = (U, CL, LL))) (hTL : Hid (TL = (kep x y (lst M n)) ++ CL)) :
    Calls Try.prog 9 #[.agg #[.int .i64 ep, .int .i64 us, .slice (some ad) n c], .int .i64 x, .int .i64 y] w fun e w' => ∃ a' c' a1 c1 a2 c2, e = .returned (.tuple #[.agg #[.int .i64 ep, .int .i64 U, .slice a' TL.length c'], .slice a1 CL.length c1, .slice a2 LL.length c2]) ∧ w'.ownsRow w.heap.size 34 4 (.slice a' TL.length c') TL.length (krow (rowL TL) TL.length) ∧ w'.ownsRow w.heap.size 34 4 (.slice a1 CL.length c1) CL.length (krow (rowL CL) CL.length) ∧ w'.ownsRow w.heap.size 34 4 (.slice a2 LL.length c2) LL.length (krow (rowL LL) LL.length) ∧ Below w.heap.size w w' := by
  have hn16 := tabB_len' ht
  have hnums := tabB_nums ht
  have HTR : Hid (trB4 (lst M n)) := el_try ht
  have HOK : Hid (∀ k, us ≤ (ag ep x us (gon x y (lst M n)) k).1 ∧ (ag ep x us (gon x y (lst M n)) k).1 ≤ 1000 ∧ (ag ep x us (gon x y (lst M n)) k).2.1.length + (ag ep x us (gon x y (lst M n)) k).2.2.length = k ∧ (∀ b ∈ (ag ep x us (gon x y (lst M n)) k).2.1, b.1 < ep * 1000 + (ag ep x us (gon x y (lst M n)) k).1 ∧ b.2.2.1 = x) ∧ ∀ b ∈ (ag ep x us (gon x y (lst M n)) k).2.2, ∃ j, j < k ∧ b = rowL (gon x y (lst M n)) j) := fun k => ag_ok (by omega) k
  have hgn : (gon x y (lst M n)).length ≤ n := by have := gon_le x y (lst M n); rw [lst_len] at this; exact this
  have hkn : (kep x y (lst M n)).length ≤ n := by have := kep_le x y (lst M n); rw [lst_len] at this; exact this
  obtain ⟨i0, hi, hz0, hz1, hz2⟩ := infoK_parts
  have A1 := Below.nw w (.cells #[.int .i64 ep, .int .i64 us, .slice (some ad) n c] 26)
  have A2 := Below.nw (w.alloc (.cells #[.int .i64 ep, .int .i64 us, .slice (some ad) n c] 26)) (.cells #[.int .i64 0, .int .i64 0, .slice none 0 0] 26)
  have N := (IB3.new w ep us (some ad) n c 26).below A2
  have R := Bx3.new (w.alloc (.cells #[.int .i64 ep, .int .i64 us, .slice (some ad) n c] 26)) (.int .i64 0) (.int .i64 0) (.slice none 0 0) 26
  have CS := (hf.below A1).below A2
  have B := A1.trans (A2.mono A1.size)
  have hJ2 : ((w.alloc (.cells #[.int .i64 ep, .int .i64 us, .slice (some ad) n c] 26)).alloc (.cells #[.int .i64 0, .int .i64 0, .slice none 0 0] 26)).heap.size = w.heap.size + 2 := by simp
  simp only [World.size_alloc] at R
  have C := specExpire_done ep us ad n c M x y _ hm CS ht h1 h2 (show _ < _ by have := HBW.out; simp only [World.size_alloc]; omega)
  clear hf A1 A2 CS
  go_enter Try.func9, Try.ntmps9
  go_upto_region 1 with fail
  generalize (w.alloc (.cells #[.int .i64 ep, .int .i64 us, .slice (some ad) n c] 26)).alloc (.cells #[.int .i64 0, .int .i64 0, .slice none 0 0] 26) = wa at *
  obtain ⟨n9, n0, n1, n2⟩ := id N
  go_wp2_with fail
  refine C.mono ?_
  rintro e wz ⟨a', c', a1, c1, rfl, OT, OG, hb⟩
  clear n9 n0 n1 n2 N
  replace R := R.below hb
  replace B := B.trans (hb.mono B.size)
  have hsz := hb.size
  rw [hJ2] at hsz OT OG
  clear hb C hJ2
  clear ht h1 h2 HBW
  have A3 := Below.nw wz (.cells #[.int .i64 ep, .int .i64 us, .slice a' (kep x y (lst M n)).length c'] 26)
  have O := Bx3.new wz (.int .i64 ep) (.int .i64 us) (.slice a' (kep x y (lst M n)).length c') 26
  have A4 := Below.nw (wz.alloc (.cells #[.int .i64 ep, .int .i64 us, .slice a' (kep x y (lst M n)).length c'] 26)) (.cells #[] 34)
  have A5 := Below.nw ((wz.alloc (.cells #[.int .i64 ep, .int .i64 us, .slice a' (kep x y (lst M n)).length c'] 26)).alloc (.cells #[] 34)) (.cells #[] 34)
  have AA := (A3.trans (A4.mono A3.size)).trans (A5.mono (A3.trans (A4.mono A3.size)).size)
  have E1 := World.ownsRow_made (base := wz.heap.size + 1) (size := 4) (e := 34) (wz.alloc (.cells #[.int .i64 ep, .int .i64 us, .slice a' (kep x y (lst M n)).length c'] 26)) #[] 0 (by simp) (by simp [maxLen]) (by simp)
  have E2 := World.ownsRow_made (base := wz.heap.size + 1) (size := 4) (e := 34) ((wz.alloc (.cells #[.int .i64 ep, .int .i64 us, .slice a' (kep x y (lst M n)).length c'] 26)).alloc (.cells #[] 34)) #[] 0 (by simp) (by simp [maxLen]) (by simp)
  have z1 : (wz.alloc (.cells #[.int .i64 ep, .int .i64 us, .slice a' (kep x y (lst M n)).length c'] 26)).heap.size = wz.heap.size + 1 := by simp
  have z2 : ((wz.alloc (.cells #[.int .i64 ep, .int .i64 us, .slice a' (kep x y (lst M n)).length c'] 26)).alloc (.cells #[] 34)).heap.size = wz.heap.size + 1 + 1 := by simp
  rw [z1] at E1
  rw [z2] at E2
  replace E1 := own_belK' E1 A5
  replace O := (O.below A4).below A5
  replace R := R.below AA
  have OT' := OT
  replace OT := own_belK' OT AA
  have OG' := OG
  replace OG := own_belK' OG AA
  have HGB : Hid (∀ g, (Value.slice a' (kep x y (lst M n)).length c').ownBlock = some g → g < wz.heap.size) := fun g hg => (World.ownsRow.lt OT' g hg).2
  replace B := B.trans (AA.mono B.size)
  have HGZ : Hid (∀ g off, a1 = some ⟨g, off, none⟩ → w.heap.size + 2 ≤ g ∧ g < wz.heap.size ∧ off = 0) := fun g off e => ⟨(World.ownsRow.lt OG' g (own_at OG' e)).1, (World.ownsRow.lt OG' g (own_at OG' e)).2, at_off OG' e⟩
  have SZ := own_srcK OG
  clear A3 A4 A5 AA z1 z2 OT' OG' OG
  go_upto_region 3 with fail
  generalize hbo : wz.heap.size = bo at *
  generalize ((wz.alloc (.cells #[.int .i64 ep, .int .i64 us, .slice a' (kep x y (lst M n)).length c'] 26)).alloc (.cells #[] 34)).alloc (.cells #[] 34) = v1 at *
  go_wp2_with fail
  go_loopw [11, 12, 13] (fun s11 s12 s13 wr => ∃ k : Nat, k ≤ (gon x y (lst M n)).length ∧ s13 = .int .i64 (k : Int) ∧ ∃ cl ll u, ag ep x us (gon x y (lst M n)) k = (u, cl, ll) ∧ AsInv ep x y M n w bo a1 cl ll u s11 s12 wr) (fun _ _ s13 _ => (gon x y (lst M n)).length - (vI s13).toNat)
  case atStart =>
    exact ⟨0, Nat.zero_le _, rfl, [], [], us, rfl, some ⟨bo + 1, 0, none⟩, 0, some ⟨bo + 1 + 1, 0, none⟩, 0, a', c', rfl, rfl, O, by rw [List.append_nil]; exact OT, E1, E2, fun g a b => by simp [Value.ownBlock] at a b; omega, fun g a b => by simp [Value.ownBlock] at a; have := HGB.out g b; omega, fun g a b => by simp [Value.ownBlock] at a; have := HGB.out g b; omega, fun g a e => by have := HGB.out g a; omega, SZ, R, B⟩
  case round =>
    clear O OT E1 E2 SZ R B HGB
    obtain ⟨k, hk, rfl, cl, ll, u, hag, ac, cc, al, cl', ao, co, rfl, rfl, O, WT, WC, WL, hcl, hct, hlt', htb, SZ, R, B⟩ := hrel
    have HCL : Hid (Ap (.slice ac cl.length cc) (.slice al ll.length cl')) := hcl
    have HCT : Hid (Ap (.slice ac cl.length cc) (.slice ao ((kep x y (lst M n)).length + cl.length) co)) := hct
    have HLT : Hid (Ap (.slice al ll.length cl') (.slice ao ((kep x y (lst M n)).length + cl.length) co)) := hlt'
    have HTB : Hid (∀ g, Value.ownBlock (.slice ao ((kep x y (lst M n)).length + cl.length) co) = some g → g ≠ bo) := htb
    have HAG : Hid (ag ep x us (gon x y (lst M n)) k = (u, cl, ll)) := hag
    obtain ⟨q1, q2, q3, q4, q5⟩ := HOK.out k
    rw [hag] at q1 q2 q3
    simp only at q1 q2 q3
    clear hcl hct hlt' htb hag q4 q5
    have hbw : bo < wr.heap.size := O.1
    obtain ⟨o0, o1, o2, o3, o4, o5, o6⟩ := id O
    by_cases hlt : k < (gon x y (lst M n)).length
    · have hli : (k : Int) < ((gon x y (lst M n)).length : Int) := by omega
      rcases SZ with h0 | ⟨g, off, hazg, CZ⟩
      · omega
      subst hazg
      obtain ⟨hg1, hg2, hg3⟩ := HGZ.out g off rfl
      subst hg3
      obtain ⟨y0, y1, y2, y3, hY⟩ := tupAsk (rowL (gon x y (lst M n))) k
      obtain ⟨c0, c1', c2, c3⟩ := CZ.elAsk hlt hY
      rw [Nat.zero_add] at c0 c1' c2 c3
      have hy3 : 1 ≤ y3 ∧ y3 ≤ 4 := by
        have hin : rowL (gon x y (lst M n)) k ∈ lst M n := (List.mem_filter.1 (show rowL (gon x y (lst M n)) k ∈ (gon x y (lst M n)) by unfold rowL; rw [List.getD_eq_getElem?_getD, List.getElem?_eq_getElem hlt]; exact List.getElem_mem hlt)).1
        have := HTR.out _ hin
        rw [hY] at this
        exact this
      have HNX0 : Hid (ag ep x us (gon x y (lst M n)) (k + 1) = agN ep x (kT y0 y1 y2 y3) u cl ll) := by rw [Hid, ag, HAG.out, hY]; rfl
      have hgw : g < wr.heap.size := by omega
      clear hY
      by_cases h4 : y3 = 4
      · subst h4
        have HNX : Hid (ag ep x us (gon x y (lst M n)) (k + 1) = (u, cl, ll ++ [kT y0 y1 y2 4])) := HNX0.out.trans (if_pos (.inl rfl))
        go_upto_region 7 with fail
        generalize hwy : wr = wy at *
        clear hwy
        have A6 := Below.nw wy (.cells #[.int .i64 y0, .int .i64 y1, .int .i64 y2, .int .i64 4] 34)
        have W6 := World.ownsRow.alloc WL (.cells #[.int .i64 y0, .int .i64 y1, .int .i64 y2, .int .i64 4] 34)
        have hs6 : bo + 1 ≤ wy.heap.size := by omega
        have HN : Hid (∀ j u, [Value.int .i64 y0, .int .i64 y1, .int .i64 y2, .int .i64 4][j]? = some u → (wy.alloc (.cells #[.int .i64 y0, .int .i64 y1, .int .i64 y2, .int .i64 4] 34)).cell? ((⟨wy.heap.size, 0, none⟩ : Addr).add j) = some u) := fun j u hu => four_at wy y0 y1 y2 4 34 j u hu
        have HW : Hid (krow (rowL ll) ll.length ++ [.int .i64 y0, .int .i64 y1, .int .i64 y2, .int .i64 4] = krow (rowL (ll ++ [(kT y0 y1 y2 4)])) (ll ++ [(kT y0 y1 y2 4)]).length) := by rw [Hid, List.length_append]; exact krowL_add _ _ _ _ _
        go_wp2_with (at_builtin; refine wpList_append_new rfl _ _ 24 rfl (bo + 1) 34 i0 (.agg #[.int .i64 0, .int .i64 0, .int .i64 0, .int .i64 0]) 4 32 Try.underlying24 hi hz0 hz1 hz2 rfl (by decide) _ _ _ rfl W6 ⟨wy.heap.size, 0, none⟩ 1 1 [.int .i64 y0, .int .i64 y1, .int .i64 y2, .int .i64 4] rfl rfl HN.out (four_one _ _ _ _) ?c3 ?c4 ?c5 ?_)
        case c3 => unfold maxLen; omega
        case c4 => omega
        case c5 => first | omega | (simp; omega)
        intro v' wn hown' hgrow hfr
        have HFR := hfr
        rw [HW.out] at hown'
        replace hown' : wn.ownsRow (bo + 1) 34 4 v' (ll ++ [(kT y0 y1 y2 4)]).length (krow (rowL (ll ++ [(kT y0 y1 y2 4)])) (ll ++ [(kT y0 y1 y2 4)]).length) := by rw [List.length_append] at *; exact hown'
        have GLW : ∀ g, Value.ownBlock (.slice al ll.length cl') = some g → bo + 1 ≤ g ∧ g < wy.heap.size := fun g hg => World.ownsRow.lt WL g hg
        have hys : wy.heap.size < (wy.alloc (.cells #[.int .i64 y0, .int .i64 y1, .int .i64 y2, .int .i64 4] 34)).heap.size := by simp
        clear o0 o1 o2 o3 o4 o5 o6 c0 c1' c2 c3
        have WC' := World.ownsRow.kept (World.ownsRow.alloc WC (.cells #[.int .i64 y0, .int .i64 y1, .int .i64 y2, .int .i64 4] 34)) hgrow (ne_own (fun g h1 h2 => HCL.out g h2 h1))
        have WT' := World.ownsRow.kept (World.ownsRow.alloc WT (.cells #[.int .i64 y0, .int .i64 y1, .int .i64 y2, .int .i64 4] 34)) hgrow (ne_own (fun g h1 h2 => HLT.out g h1 h2))
        have O' := (O.below A6).kept3 hgrow (fun e => by have := GLW _ e.symm; omega)
        have R' := (R.below A6).kept3 hgrow (fun e => by have := GLW _ e.symm; omega)
        have CZ' := (CZ.below A6 CZ.1).kept hgrow (fun e => by have := GLW _ e.symm; omega)
        have B' := (B.trans (A6.mono B.size)).trans (grown_bel hgrow (B.trans (A6.mono B.size)).size (fun q h e => by have := GLW _ e.symm; omega))
        have n1 : Ap (.slice ac cl.length cc) v' := fun g g1 g2 => by
          rcases HFR g g2 with h | h
          · exact HCL.out g g1 h
          · have := (World.ownsRow.lt WC g g1).2; omega
        have n2 : Ap v' (.slice ao ((kep x y (lst M n)).length + cl.length) co) := fun g g1 g2 => by
          rcases HFR g g1 with h | h
          · exact HLT.out g h g2
          · have := (World.ownsRow.lt WT g g2).2; omega
        obtain ⟨a2, c2', rfl, _, _, _⟩ := ownF_src hown'
        have HRL : Hid (AsInv ep x y M n w bo (some ⟨g, 0, none⟩) cl (ll ++ [(kT y0 y1 y2 4)]) u (.slice ac cl.length cc) (.slice a2 (ll ++ [(kT y0 y1 y2 4)]).length c2') wn) := ⟨ac, cc, a2, c2', ao, co, rfl, rfl, O', WT', WC', hown', n1, HCT.out, n2, HTB.out, .inr ⟨g, 0, rfl, CZ'⟩, R', B'⟩
        clear A6 W6 HN HW hgrow WL WC WT O R CZ B hown' WC' WT' O' R' CZ' B' n1 n2 HFR hfr GLW hys
        go_wp2_with fail
        go_roundw
        case rel => exact ⟨k + 1, by omega, by go_num, cl, ll ++ [(kT y0 y1 y2 4)], u, HNX.out, by simpa using HRL.out⟩
        case measure => simp [vI]; omega
      have d4 : (y3 == 4) = false := by simp [h4]
      have d4' : decide (y3 = 4) = false := decide_eq_false h4
      by_cases hu : u = 1000
      · have HNX : Hid (ag ep x us (gon x y (lst M n)) (k + 1) = (u, cl, ll ++ [kT y0 y1 y2 y3])) := HNX0.out.trans (if_pos (.inr hu))
        have du : (u == 1000) = true := by simp [hu]
        have du' : decide (u = 1000) = true := decide_eq_true hu
        clear hu
        go_upto_region 7 with fail
        generalize hwy : wr = wy at *
        clear hwy
        have A6 := Below.nw wy (.cells #[.int .i64 y0, .int .i64 y1, .int .i64 y2, .int .i64 y3] 34)
        have W6 := World.ownsRow.alloc WL (.cells #[.int .i64 y0, .int .i64 y1, .int .i64 y2, .int .i64 y3] 34)
        have hs6 : bo + 1 ≤ wy.heap.size := by omega
        have HN : Hid (∀ j u, [Value.int .i64 y0, .int .i64 y1, .int .i64 y2, .int .i64 y3][j]? = some u → (wy.alloc (.cells #[.int .i64 y0, .int .i64 y1, .int .i64 y2, .int .i64 y3] 34)).cell? ((⟨wy.heap.size, 0, none⟩ : Addr).add j) = some u) := fun j u hu => four_at wy y0 y1 y2 y3 34 j u hu
        have HW : Hid (krow (rowL ll) ll.length ++ [.int .i64 y0, .int .i64 y1, .int .i64 y2, .int .i64 y3] = krow (rowL (ll ++ [(kT y0 y1 y2 y3)])) (ll ++ [(kT y0 y1 y2 y3)]).length) := by rw [Hid, List.length_append]; exact krowL_add _ _ _ _ _
        go_wp2_with (at_builtin; refine wpList_append_new rfl _ _ 24 rfl (bo + 1) 34 i0 (.agg #[.int .i64 0, .int .i64 0, .int .i64 0, .int .i64 0]) 4 32 Try.underlying24 hi hz0 hz1 hz2 rfl (by decide) _ _ _ rfl W6 ⟨wy.heap.size, 0, none⟩ 1 1 [.int .i64 y0, .int .i64 y1, .int .i64 y2, .int .i64 y3] rfl rfl HN.out (four_one _ _ _ _) ?c3 ?c4 ?c5 ?_)
        case c3 => unfold maxLen; omega
        case c4 => omega
        case c5 => first | omega | (simp; omega)
        intro v' wn hown' hgrow hfr
        have HFR := hfr
        rw [HW.out] at hown'
        replace hown' : wn.ownsRow (bo + 1) 34 4 v' (ll ++ [(kT y0 y1 y2 y3)]).length (krow (rowL (ll ++ [(kT y0 y1 y2 y3)])) (ll ++ [(kT y0 y1 y2 y3)]).length) := by rw [List.length_append] at *; exact hown'
        have GLW : ∀ g, Value.ownBlock (.slice al ll.length cl') = some g → bo + 1 ≤ g ∧ g < wy.heap.size := fun g hg => World.ownsRow.lt WL g hg
        have hys : wy.heap.size < (wy.alloc (.cells #[.int .i64 y0, .int .i64 y1, .int .i64 y2, .int .i64 y3] 34)).heap.size := by simp
        clear o0 o1 o2 o3 o4 o5 o6 c0 c1' c2 c3
        have WC' := World.ownsRow.kept (World.ownsRow.alloc WC (.cells #[.int .i64 y0, .int .i64 y1, .int .i64 y2, .int .i64 y3] 34)) hgrow (ne_own (fun g h1 h2 => HCL.out g h2 h1))
        have WT' := World.ownsRow.kept (World.ownsRow.alloc WT (.cells #[.int .i64 y0, .int .i64 y1, .int .i64 y2, .int .i64 y3] 34)) hgrow (ne_own (fun g h1 h2 => HLT.out g h1 h2))
        have O' := (O.below A6).kept3 hgrow (fun e => by have := GLW _ e.symm; omega)
        have R' := (R.below A6).kept3 hgrow (fun e => by have := GLW _ e.symm; omega)
        have CZ' := (CZ.below A6 CZ.1).kept hgrow (fun e => by have := GLW _ e.symm; omega)
        have B' := (B.trans (A6.mono B.size)).trans (grown_bel hgrow (B.trans (A6.mono B.size)).size (fun q h e => by have := GLW _ e.symm; omega))
        have n1 : Ap (.slice ac cl.length cc) v' := fun g g1 g2 => by
          rcases HFR g g2 with h | h
          · exact HCL.out g g1 h
          · have := (World.ownsRow.lt WC g g1).2; omega
        have n2 : Ap v' (.slice ao ((kep x y (lst M n)).length + cl.length) co) := fun g g1 g2 => by
          rcases HFR g g1 with h | h
          · exact HLT.out g h g2
          · have := (World.ownsRow.lt WT g g2).2; omega
        obtain ⟨a2, c2', rfl, _, _, _⟩ := ownF_src hown'
        have HRL : Hid (AsInv ep x y M n w bo (some ⟨g, 0, none⟩) cl (ll ++ [(kT y0 y1 y2 y3)]) u (.slice ac cl.length cc) (.slice a2 (ll ++ [(kT y0 y1 y2 y3)]).length c2') wn) := ⟨ac, cc, a2, c2', ao, co, rfl, rfl, O', WT', WC', hown', n1, HCT.out, n2, HTB.out, .inr ⟨g, 0, rfl, CZ'⟩, R', B'⟩
        clear A6 W6 HN HW hgrow WL WC WT O R CZ B hown' WC' WT' O' R' CZ' B' n1 n2 HFR hfr GLW hys
        go_wp2_with fail
        go_roundw
        case rel => exact ⟨k + 1, by omega, by go_num, cl, ll ++ [(kT y0 y1 y2 y3)], u, HNX.out, by simpa using HRL.out⟩
        case measure => simp [vI]; omega
      have du : (u == 1000) = false := by simp [hu]
      have du' : decide (u = 1000) = false := decide_eq_false hu
      obtain ⟨nn, hnn⟩ : ∃ nn, ep * 1000 + u = nn := ⟨_, rfl⟩
      have HNX : Hid (ag ep x us (gon x y (lst M n)) (k + 1) = (u + 1, cl ++ [kT nn y1 x (y3 + 1)], ll)) := by rw [← hnn]; exact HNX0.out.trans (if_neg (fun h => h.elim h4 hu))
      have hw31 : IntKind.i64.wrap (y3 + 1) = y3 + 1 := Go.IntWalk.i64_in _ ⟨by omega, by omega⟩
      have HKW : Hid (krow (addG (rowL ((kep x y (lst M n)) ++ cl)) ((kep x y (lst M n)).length + cl.length) (kT nn y1 x (y3 + 1))) (((kep x y (lst M n)).length + cl.length) + 1) = krow (rowL ((kep x y (lst M n)) ++ (cl ++ [kT nn y1 x (y3 + 1)]))) (((kep x y (lst M n)).length + cl.length) + 1)) := by
        rw [Hid, ← List.append_assoc, ← krow_addL, List.length_append]
      have HTL1 : Hid ((kep x y (lst M n)).length + (cl ++ [kT nn y1 x (y3 + 1)]).length = ((kep x y (lst M n)).length + cl.length) + 1) := by rw [Hid, List.length_append]; simp; omega
      have FR := FromsO.own WT
      have CP := fun (v : World) (b : Below wr.heap.size wr v) => l7Put_opt ep u y1 x (y3 + 1) nn ao ((kep x y (lst M n)).length + cl.length) co (rowL ((kep x y (lst M n)) ++ cl)) v (by omega) (FR.below b) (by omega) (by omega) hnn
      have BZ : Below wr.heap.size wr wr := Below.refl _ _
      generalize hTT : ((kep x y (lst M n)).length + cl.length) = TT at *
      go_upto_region 8 with fail
      generalize hbz : wr.heap.size = bz at *
      go_cut [14, 15] (fun s14 s15 wx => ∃ j14 j15 a2 c2', s14 = .pointer (some ⟨j14, 0, none⟩) ∧ s15 = .pointer (some ⟨j15, 0, none⟩) ∧ Bx3 wx j14 (.int .i64 ep) (.int .i64 (u + 1)) (.slice a2 (TT + 1) c2') ∧ Bf4 wx j15 nn y1 x (y3 + 1) ∧ wx.ownsRow bz 34 4 (.slice a2 (TT + 1) c2') (TT + 1) (krow (addG (rowL ((kep x y (lst M n)) ++ cl)) TT (kT nn y1 x (y3 + 1))) (TT + 1)) ∧ bz ≤ j14 ∧ bz ≤ j15 ∧ Below bz wr wx)
      case first =>
        refine wp_region_held_drew (S := (fun w' => w'.cell? ⟨bo, 0, none⟩ = some (.int .i64 ep) ∧ w'.cell? ⟨bo, 1, none⟩ = some (.int .i64 u) ∧ w'.cell? ⟨bo, 2, none⟩ = some (.slice ao TT co) ∧ w'.cell? ⟨g, k * 4 + 1, none⟩ = some (.int .i64 y1) ∧ w'.cell? ⟨g, k * 4 + 3, none⟩ = some (.int .i64 y3))) (by kernel_rfl) ?_ (fun hHeld => ?_)
        · first | (exact ⟨(BZ.cell (p := ⟨bo, 0, none⟩) hbw).trans o1, (BZ.cell (p := ⟨bo, 1, none⟩) hbw).trans o2, (BZ.cell (p := ⟨bo, 2, none⟩) hbw).trans o3, (BZ.cell (p := ⟨g, k * 4 + 1, none⟩) hgw).trans c1', (BZ.cell (p := ⟨g, k * 4 + 3, none⟩) hgw).trans c3⟩) | (exact ⟨(BZ.drew.cell (p := ⟨bo, 0, none⟩) hbw).trans o1, (BZ.drew.cell (p := ⟨bo, 1, none⟩) hbw).trans o2, (BZ.drew.cell (p := ⟨bo, 2, none⟩) hbw).trans o3, (BZ.drew.cell (p := ⟨g, k * 4 + 1, none⟩) hgw).trans c1', (BZ.drew.cell (p := ⟨g, k * 4 + 3, none⟩) hgw).trans c3⟩)
        replace BZ := BZ.drew
        generalize wr.drew = v at *
        refine wpAnyH_take (i := 0) (v := ?_) (by rw [List.getElem?_toArray]; rfl) (by kernel_rfl) (by kernel_rfl) (by kernel_rfl) (by intro _ _ _ h; exact h) (Or.inl ⟨by rfl, ?_⟩) (by assumption) ?_
        rotate_left
        · (intro w hSw; (try dsimp only at hSw); go_simp; all_goals with_reducible rfl)
        (try simp only [Act.put, List.setIfInBounds_toArray, List.set_cons_zero, List.set_cons_succ])
        refine wpAnyH_take (i := 1) (v := ?_) (by rw [List.getElem?_toArray]; rfl) (by kernel_rfl) (by kernel_rfl) (by kernel_rfl) (by intro _ _ _ h; exact h) (Or.inl ⟨by rfl, ?_⟩) (by assumption) ?_
        rotate_left
        · (intro w hSw; (try dsimp only at hSw); go_simp; all_goals with_reducible rfl)
        (try simp only [Act.put, List.setIfInBounds_toArray, List.set_cons_zero, List.set_cons_succ])
        refine wpAnyH_take (i := 2) (v := ?_) (by rw [List.getElem?_toArray]; rfl) (by kernel_rfl) (by kernel_rfl) (by kernel_rfl) (by intro _ _ _ h; exact h) (Or.inl ⟨by rfl, ?_⟩) (by assumption) ?_
        rotate_left
        · (intro w hSw; (try dsimp only at hSw); go_simp; all_goals with_reducible rfl)
        (try simp only [Act.put, List.setIfInBounds_toArray, List.set_cons_zero, List.set_cons_succ])
        refine wpAnyH_take (i := 3) (v := ?_) (by rw [List.getElem?_toArray]; rfl) (by kernel_rfl) (by kernel_rfl) (by kernel_rfl) (by intro _ _ _ h; exact h) (Or.inl ⟨by rfl, ?_⟩) (by assumption) ?_
        rotate_left
        · (intro w hSw; (try dsimp only at hSw); go_simp; all_goals with_reducible rfl)
        (try simp only [Act.put, List.setIfInBounds_toArray, List.set_cons_zero, List.set_cons_succ])
        refine wpAnyH_take (i := 4) (v := ?_) (by rw [List.getElem?_toArray]; rfl) (by kernel_rfl) (by kernel_rfl) (by kernel_rfl) (by intro _ _ _ h; exact h) (Or.inl ⟨by rfl, ?_⟩) (by assumption) ?_
        rotate_left
        · (intro w hSw; (try dsimp only at hSw); go_simp; all_goals with_reducible rfl)
        (try simp only [Act.put, List.setIfInBounds_toArray, List.set_cons_zero, List.set_cons_succ])
        refine wpAnyH_take (i := 5) (v := ?_) (by rw [List.getElem?_toArray]; rfl) (by kernel_rfl) (by kernel_rfl) (by kernel_rfl) (by intro _ _ _ h; exact h) (Or.inl ⟨by rfl, ?_⟩) (by assumption) ?_
        rotate_left
        · (intro w hSw; (try dsimp only at hSw); go_simp; all_goals with_reducible rfl)
        (try simp only [Act.put, List.setIfInBounds_toArray, List.set_cons_zero, List.set_cons_succ])
        refine wpAnyH_take (i := 6) (v := ?_) (by rw [List.getElem?_toArray]; rfl) (by kernel_rfl) (by kernel_rfl) (by kernel_rfl) (by intro _ _ _ h; exact h) (Or.inl ⟨by rfl, ?_⟩) (by assumption) ?_
        rotate_left
        · (intro w hSw; (try dsimp only at hSw); go_simp; all_goals with_reducible rfl)
        (try simp only [Act.put, List.setIfInBounds_toArray, List.set_cons_zero, List.set_cons_succ])
        refine wpAnyH_take (i := 7) (v := ?_) (by rw [List.getElem?_toArray]; rfl) (by kernel_rfl) (by kernel_rfl) (by kernel_rfl) (by intro _ _ _ h; exact h) (Or.inl ⟨by rfl, ?_⟩) (by assumption) ?_
        rotate_left
        · (intro w hSw; (try dsimp only at hSw); go_simp; all_goals with_reducible rfl)
        (try simp only [Act.put, List.setIfInBounds_toArray, List.set_cons_zero, List.set_cons_succ])
        refine wpAnyH_take (i := 8) (v := ?_) (by rw [List.getElem?_toArray]; rfl) (by kernel_rfl) (by kernel_rfl) (by kernel_rfl) (by intro _ _ _ h; exact h) (Or.inl ⟨by rfl, ?_⟩) (by assumption) ?_
        rotate_left
        · (intro w hSw; (try dsimp only at hSw); go_simp; all_goals with_reducible rfl)
        (try simp only [Act.put, List.setIfInBounds_toArray, List.set_cons_zero, List.set_cons_succ])
        refine wpAnyH_take (i := 9) (v := ?_) (by rw [List.getElem?_toArray]; rfl) (by kernel_rfl) (by kernel_rfl) (by kernel_rfl) (by intro _ _ _ h; exact h) (Or.inl ⟨by rfl, ?_⟩) (by assumption) ?_
        rotate_left
        · (intro w hSw; (try dsimp only at hSw); go_simp; all_goals with_reducible rfl)
        (try simp only [Act.put, List.setIfInBounds_toArray, List.set_cons_zero, List.set_cons_succ])
        refine wpAnyH_take (i := 10) (v := ?_) (by rw [List.getElem?_toArray]; rfl) (by kernel_rfl) (by kernel_rfl) (by kernel_rfl) (by intro _ _ _ h; exact h) (Or.inl ⟨by rfl, ?_⟩) (by assumption) ?_
        rotate_left
        · (intro w hSw; (try dsimp only at hSw); go_simp; all_goals with_reducible rfl)
        (try simp only [Act.put, List.setIfInBounds_toArray, List.set_cons_zero, List.set_cons_succ])
        refine wpAnyH_take (i := 11) (v := ?_) (by rw [List.getElem?_toArray]; rfl) (by kernel_rfl) (by kernel_rfl) (by kernel_rfl) (by intro _ _ _ h; exact h) (Or.inl ⟨by rfl, ?_⟩) (by assumption) ?_
        rotate_left
        · (intro w hSw; (try dsimp only at hSw); go_simp; all_goals with_reducible rfl)
        (try simp only [Act.put, List.setIfInBounds_toArray, List.set_cons_zero, List.set_cons_succ])
        refine wpAnyH_take (i := 12) (v := ?_) (by rw [List.getElem?_toArray]; rfl) (by kernel_rfl) (by kernel_rfl) (by kernel_rfl) (by intro _ _ _ h; exact h) (Or.inl ⟨by rfl, ?_⟩) (by assumption) ?_
        rotate_left
        · (intro w hSw; (try dsimp only at hSw); go_simp; all_goals with_reducible rfl)
        (try simp only [Act.put, List.setIfInBounds_toArray, List.set_cons_zero, List.set_cons_succ])
        refine wpAnyH_ready (rs := [13, 17, 18]) (by kernel_rfl) (by simp) ?_
        refine (AllReadyH.cons (by rw [List.getElem?_toArray]; rfl) (fun K hK => ?_) (AllReadyH.cons (by rw [List.getElem?_toArray]; rfl) (fun K hK => ?_) (AllReadyH.cons (by rw [List.getElem?_toArray]; rfl) (fun K hK => ?_) AllReadyH.nil)))
        · go_simp
          (try clear x0 x1 x2 x3 x4 x5 x6); (try clear z0 z1 z2 z3 z4 z5 z6 z7 z8); refine (CP _ BZ).mono ?_; rintro e v ⟨a2, c2', rfl, OW, hb⟩; (have hsv := (Nat.le_trans (Nat.le_of_eq hbz.symm) BZ.size)); (replace OW := ownK_le OW hsv); (replace BZ := BZ.trans (hb.mono (Nat.le_trans (Nat.le_of_eq hbz.symm) BZ.size))); clear hb hsv; (try (obtain ⟨x0, x1, x2, x3, x4, x5, x6⟩ := id X14)); (try (obtain ⟨⟨z0, z1, z2, z3, z4⟩, z5, z6, z7, z8⟩ := id X15))
          (try go_wp2_with fail)
          refine hK.out _ _ ?_ (fun hHeld => ?_)
          · first | (exact ⟨(BZ.cell (p := ⟨bo, 0, none⟩) hbw).trans o1, (BZ.cell (p := ⟨bo, 1, none⟩) hbw).trans o2, (BZ.cell (p := ⟨bo, 2, none⟩) hbw).trans o3, (BZ.cell (p := ⟨g, k * 4 + 1, none⟩) hgw).trans c1', (BZ.cell (p := ⟨g, k * 4 + 3, none⟩) hgw).trans c3⟩) | (exact ⟨(BZ.drew.cell (p := ⟨bo, 0, none⟩) hbw).trans o1, (BZ.drew.cell (p := ⟨bo, 1, none⟩) hbw).trans o2, (BZ.drew.cell (p := ⟨bo, 2, none⟩) hbw).trans o3, (BZ.drew.cell (p := ⟨g, k * 4 + 1, none⟩) hgw).trans c1', (BZ.drew.cell (p := ⟨g, k * 4 + 3, none⟩) hgw).trans c3⟩)
          clear hK K
          (try simp only [Act.put, List.setIfInBounds_toArray, List.set_cons_zero, List.set_cons_succ])
          refine wpAnyH_take (i := 14) (v := ?_) (by rw [List.getElem?_toArray]; rfl) (by kernel_rfl) (by kernel_rfl) (by kernel_rfl) (by intro _ _ _ h; exact h) (Or.inl ⟨by rfl, ?_⟩) (by assumption) ?_
          rotate_left
          · (intro w hSw; (try dsimp only at hSw); go_simp; all_goals with_reducible rfl)
          (try simp only [Act.put, List.setIfInBounds_toArray, List.set_cons_zero, List.set_cons_succ])
          refine wpAnyH_take (i := 15) (v := ?_) (by rw [List.getElem?_toArray]; rfl) (by kernel_rfl) (by kernel_rfl) (by kernel_rfl) (by intro _ _ _ h; exact h) (Or.inl ⟨by rfl, ?_⟩) (by assumption) ?_
          rotate_left
          · (intro w hSw; (try dsimp only at hSw); go_simp; all_goals with_reducible rfl)
          (try simp only [Act.put, List.setIfInBounds_toArray, List.set_cons_zero, List.set_cons_succ])
          refine wpAnyH_take (i := 16) (v := ?_) (by rw [List.getElem?_toArray]; rfl) (by kernel_rfl) (by kernel_rfl) (by kernel_rfl) (by intro _ _ _ h; exact h) (Or.inl ⟨by rfl, ?_⟩) (by assumption) ?_
          rotate_left
          · (intro w hSw; (try dsimp only at hSw); go_simp; all_goals with_reducible rfl)
          (try simp only [Act.put, List.setIfInBounds_toArray, List.set_cons_zero, List.set_cons_succ])
          refine wpAnyH_ready (rs := [17, 18]) (by kernel_rfl) (by simp) ?_
          refine (AllReadyH.cons (by rw [List.getElem?_toArray]; rfl) (fun K hK => ?_) (AllReadyH.cons (by rw [List.getElem?_toArray]; rfl) (fun K hK => ?_) AllReadyH.nil))
          · go_simp
            (try clear x0 x1 x2 x3 x4 x5 x6); (try clear z0 z1 z2 z3 z4 z5 z6 z7 z8); (have X14 := Bx3.new v (.int .i64 0) (.int .i64 0) (.slice none 0 0) 26); (have A7 := Below.nw v (.cells #[.int .i64 0, .int .i64 0, .slice none 0 0] 26)); (have h14 : bz ≤ v.heap.size := (Nat.le_trans (Nat.le_of_eq hbz.symm) BZ.size)); (have e14 : ∀ g, Value.ownBlock (Value.slice a2 (TT + 1) c2') = some g → g ≠ v.heap.size := fun g hg => by have := (World.ownsRow.lt OW g hg).2; omega); (replace OW := own_belK' OW A7); (replace BZ := BZ.trans (A7.mono (Nat.le_trans (Nat.le_of_eq hbz.symm) BZ.size))); clear A7; (generalize v.heap.size = j14 at *); (generalize v.alloc (.cells #[.int .i64 0, .int .i64 0, .slice none 0 0] 26) = v at *); (try (obtain ⟨x0, x1, x2, x3, x4, x5, x6⟩ := id X14)); (try (obtain ⟨⟨z0, z1, z2, z3, z4⟩, z5, z6, z7, z8⟩ := id X15))
            refine hK.out _ _ ?_ (fun hHeld => ?_)
            · first | (exact ⟨(BZ.cell (p := ⟨bo, 0, none⟩) hbw).trans o1, (BZ.cell (p := ⟨bo, 1, none⟩) hbw).trans o2, (BZ.cell (p := ⟨bo, 2, none⟩) hbw).trans o3, (BZ.cell (p := ⟨g, k * 4 + 1, none⟩) hgw).trans c1', (BZ.cell (p := ⟨g, k * 4 + 3, none⟩) hgw).trans c3⟩) | (exact ⟨(BZ.drew.cell (p := ⟨bo, 0, none⟩) hbw).trans o1, (BZ.drew.cell (p := ⟨bo, 1, none⟩) hbw).trans o2, (BZ.drew.cell (p := ⟨bo, 2, none⟩) hbw).trans o3, (BZ.drew.cell (p := ⟨g, k * 4 + 1, none⟩) hgw).trans c1', (BZ.drew.cell (p := ⟨g, k * 4 + 3, none⟩) hgw).trans c3⟩)
            clear hK K
            (try simp only [Act.put, List.setIfInBounds_toArray, List.set_cons_zero, List.set_cons_succ])
            refine wpAnyH_ready (rs := [18]) (by kernel_rfl) (by simp) ?_
            refine (AllReadyH.cons (by rw [List.getElem?_toArray]; rfl) (fun K hK => ?_) AllReadyH.nil)
            go_simp
            (try clear x0 x1 x2 x3 x4 x5 x6); (try clear z0 z1 z2 z3 z4 z5 z6 z7 z8); (have X15 := Bf4.new v 0 0 0 0 34); (have A7 := Below.nw v (.cells #[.int .i64 0, .int .i64 0, .int .i64 0, .int .i64 0] 34)); (have h15 : bz ≤ v.heap.size := (Nat.le_trans (Nat.le_of_eq hbz.symm) BZ.size)); (have n45 : j14 < v.heap.size := X14.1); (replace X14 := X14.below A7); (have e15 : ∀ g, Value.ownBlock (Value.slice a2 (TT + 1) c2') = some g → g ≠ v.heap.size := fun g hg => by have := (World.ownsRow.lt OW g hg).2; omega); (replace OW := own_belK' OW A7); (replace BZ := BZ.trans (A7.mono (Nat.le_trans (Nat.le_of_eq hbz.symm) BZ.size))); clear A7; (generalize v.heap.size = j15 at *); (generalize v.alloc (.cells #[.int .i64 0, .int .i64 0, .int .i64 0, .int .i64 0] 34) = v at *); (try (obtain ⟨x0, x1, x2, x3, x4, x5, x6⟩ := id X14)); (try (obtain ⟨⟨z0, z1, z2, z3, z4⟩, z5, z6, z7, z8⟩ := id X15))
            refine hK.out _ _ ?_ (fun hHeld => ?_)
            · first | (exact ⟨(BZ.cell (p := ⟨bo, 0, none⟩) hbw).trans o1, (BZ.cell (p := ⟨bo, 1, none⟩) hbw).trans o2, (BZ.cell (p := ⟨bo, 2, none⟩) hbw).trans o3, (BZ.cell (p := ⟨g, k * 4 + 1, none⟩) hgw).trans c1', (BZ.cell (p := ⟨g, k * 4 + 3, none⟩) hgw).trans c3⟩) | (exact ⟨(BZ.drew.cell (p := ⟨bo, 0, none⟩) hbw).trans o1, (BZ.drew.cell (p := ⟨bo, 1, none⟩) hbw).trans o2, (BZ.drew.cell (p := ⟨bo, 2, none⟩) hbw).trans o3, (BZ.drew.cell (p := ⟨g, k * 4 + 1, none⟩) hgw).trans c1', (BZ.drew.cell (p := ⟨g, k * 4 + 3, none⟩) hgw).trans c3⟩)
            clear hK K
            (try simp only [Act.put, List.setIfInBounds_toArray, List.set_cons_zero, List.set_cons_succ])
            refine wpAnyH_ready (rs := [19]) (by kernel_rfl) (by simp) ?_
            refine (AllReadyH.cons (by rw [List.getElem?_toArray]; rfl) (fun K hK => ?_) AllReadyH.nil)
            go_simp
            (try clear x0 x1 x2 x3 x4 x5 x6); (try clear z0 z1 z2 z3 z4 z5 z6 z7 z8); (have PB := put3_butK v j14 (.int .i64 ep) (.int .i64 (u + 1)) (.slice a2 (TT + 1) c2')); (replace X14 := X14.set (.int .i64 ep) (.int .i64 (u + 1)) (.slice a2 (TT + 1) c2')); (replace X15 := X15.but PB (by omega)); (replace OW := own_neK OW PB e14); (replace BZ := BZ.trans (PB.below h14 (Nat.le_trans (Nat.le_of_eq hbz.symm) BZ.size))); clear PB; (generalize (((v.setCell ⟨j14, 0, none⟩ (.int .i64 ep)).setCell ⟨j14, 1, none⟩ (.int .i64 (u + 1))).setCell ⟨j14, 2, none⟩ (.slice a2 (TT + 1) c2')) = v at *); (try (obtain ⟨x0, x1, x2, x3, x4, x5, x6⟩ := id X14)); (try (obtain ⟨⟨z0, z1, z2, z3, z4⟩, z5, z6, z7, z8⟩ := id X15))
            refine hK.out _ _ ?_ (fun hHeld => ?_)
            · first | (exact ⟨(BZ.cell (p := ⟨bo, 0, none⟩) hbw).trans o1, (BZ.cell (p := ⟨bo, 1, none⟩) hbw).trans o2, (BZ.cell (p := ⟨bo, 2, none⟩) hbw).trans o3, (BZ.cell (p := ⟨g, k * 4 + 1, none⟩) hgw).trans c1', (BZ.cell (p := ⟨g, k * 4 + 3, none⟩) hgw).trans c3⟩) | (exact ⟨(BZ.drew.cell (p := ⟨bo, 0, none⟩) hbw).trans o1, (BZ.drew.cell (p := ⟨bo, 1, none⟩) hbw).trans o2, (BZ.drew.cell (p := ⟨bo, 2, none⟩) hbw).trans o3, (BZ.drew.cell (p := ⟨g, k * 4 + 1, none⟩) hgw).trans c1', (BZ.drew.cell (p := ⟨g, k * 4 + 3, none⟩) hgw).trans c3⟩)
            clear hK K
            (try simp only [Act.put, List.setIfInBounds_toArray, List.set_cons_zero, List.set_cons_succ])
            refine wpAnyH_ready (rs := [20]) (by kernel_rfl) (by simp) ?_
            refine (AllReadyH.cons (by rw [List.getElem?_toArray]; rfl) (fun K hK => ?_) AllReadyH.nil)
            go_simp
            (try clear x0 x1 x2 x3 x4 x5 x6); (try clear z0 z1 z2 z3 z4 z5 z6 z7 z8); (have PB : But j15 v (put4 v j15 nn y1 x (y3 + 1)) := put4_butK v j15 nn y1 x (y3 + 1)); (replace X15 := X15.set nn y1 x (y3 + 1)); (replace X14 := X14.but PB (by omega)); (replace OW := own_neK OW PB e15); (replace BZ := BZ.trans (PB.below h15 (Nat.le_trans (Nat.le_of_eq hbz.symm) BZ.size))); clear PB
            refine hK.out _ _ ?_ (fun hHeld => ?_)
            · first | (exact ⟨(BZ.cell (p := ⟨bo, 0, none⟩) hbw).trans o1, (BZ.cell (p := ⟨bo, 1, none⟩) hbw).trans o2, (BZ.cell (p := ⟨bo, 2, none⟩) hbw).trans o3, (BZ.cell (p := ⟨g, k * 4 + 1, none⟩) hgw).trans c1', (BZ.cell (p := ⟨g, k * 4 + 3, none⟩) hgw).trans c3⟩) | (exact ⟨(BZ.drew.cell (p := ⟨bo, 0, none⟩) hbw).trans o1, (BZ.drew.cell (p := ⟨bo, 1, none⟩) hbw).trans o2, (BZ.drew.cell (p := ⟨bo, 2, none⟩) hbw).trans o3, (BZ.drew.cell (p := ⟨g, k * 4 + 1, none⟩) hgw).trans c1', (BZ.drew.cell (p := ⟨g, k * 4 + 3, none⟩) hgw).trans c3⟩)
            clear hK K
            (try simp only [Act.put, List.setIfInBounds_toArray, List.set_cons_zero, List.set_cons_succ])
            refine wpAnyH_done (by kernel_rfl) ?_ _
            go_wp2_with fail
            go_meet
            case rel => exact ⟨j14, j15, a2, c2', rfl, rfl, X14, X15, OW, h14, h15, BZ⟩
          · go_simp
            (try clear x0 x1 x2 x3 x4 x5 x6); (try clear z0 z1 z2 z3 z4 z5 z6 z7 z8); (have X15 := Bf4.new v 0 0 0 0 34); (have A7 := Below.nw v (.cells #[.int .i64 0, .int .i64 0, .int .i64 0, .int .i64 0] 34)); (have h15 : bz ≤ v.heap.size := (Nat.le_trans (Nat.le_of_eq hbz.symm) BZ.size)); (have e15 : ∀ g, Value.ownBlock (Value.slice a2 (TT + 1) c2') = some g → g ≠ v.heap.size := fun g hg => by have := (World.ownsRow.lt OW g hg).2; omega); (replace OW := own_belK' OW A7); (replace BZ := BZ.trans (A7.mono (Nat.le_trans (Nat.le_of_eq hbz.symm) BZ.size))); clear A7; (generalize v.heap.size = j15 at *); (generalize v.alloc (.cells #[.int .i64 0, .int .i64 0, .int .i64 0, .int .i64 0] 34) = v at *); (try (obtain ⟨x0, x1, x2, x3, x4, x5, x6⟩ := id X14)); (try (obtain ⟨⟨z0, z1, z2, z3, z4⟩, z5, z6, z7, z8⟩ := id X15))
            refine hK.out _ _ ?_ (fun hHeld => ?_)
            · first | (exact ⟨(BZ.cell (p := ⟨bo, 0, none⟩) hbw).trans o1, (BZ.cell (p := ⟨bo, 1, none⟩) hbw).trans o2, (BZ.cell (p := ⟨bo, 2, none⟩) hbw).trans o3, (BZ.cell (p := ⟨g, k * 4 + 1, none⟩) hgw).trans c1', (BZ.cell (p := ⟨g, k * 4 + 3, none⟩) hgw).trans c3⟩) | (exact ⟨(BZ.drew.cell (p := ⟨bo, 0, none⟩) hbw).trans o1, (BZ.drew.cell (p := ⟨bo, 1, none⟩) hbw).trans o2, (BZ.drew.cell (p := ⟨bo, 2, none⟩) hbw).trans o3, (BZ.drew.cell (p := ⟨g, k * 4 + 1, none⟩) hgw).trans c1', (BZ.drew.cell (p := ⟨g, k * 4 + 3, none⟩) hgw).trans c3⟩)
            clear hK K
            (try simp only [Act.put, List.setIfInBounds_toArray, List.set_cons_zero, List.set_cons_succ])
            refine wpAnyH_ready (rs := [17]) (by kernel_rfl) (by simp) ?_
            refine (AllReadyH.cons (by rw [List.getElem?_toArray]; rfl) (fun K hK => ?_) AllReadyH.nil)
            go_simp
            (try clear x0 x1 x2 x3 x4 x5 x6); (try clear z0 z1 z2 z3 z4 z5 z6 z7 z8); (have X14 := Bx3.new v (.int .i64 0) (.int .i64 0) (.slice none 0 0) 26); (have A7 := Below.nw v (.cells #[.int .i64 0, .int .i64 0, .slice none 0 0] 26)); (have h14 : bz ≤ v.heap.size := (Nat.le_trans (Nat.le_of_eq hbz.symm) BZ.size)); (have n45 : j15 < v.heap.size := X15.1.1); (replace X15 := X15.below A7); (have e14 : ∀ g, Value.ownBlock (Value.slice a2 (TT + 1) c2') = some g → g ≠ v.heap.size := fun g hg => by have := (World.ownsRow.lt OW g hg).2; omega); (replace OW := own_belK' OW A7); (replace BZ := BZ.trans (A7.mono (Nat.le_trans (Nat.le_of_eq hbz.symm) BZ.size))); clear A7; (generalize v.heap.size = j14 at *); (generalize v.alloc (.cells #[.int .i64 0, .int .i64 0, .slice none 0 0] 26) = v at *); (try (obtain ⟨x0, x1, x2, x3, x4, x5, x6⟩ := id X14)); (try (obtain ⟨⟨z0, z1, z2, z3, z4⟩, z5, z6, z7, z8⟩ := id X15))
            refine hK.out _ _ ?_ (fun hHeld => ?_)
            · first | (exact ⟨(BZ.cell (p := ⟨bo, 0, none⟩) hbw).trans o1, (BZ.cell (p := ⟨bo, 1, none⟩) hbw).trans o2, (BZ.cell (p := ⟨bo, 2, none⟩) hbw).trans o3, (BZ.cell (p := ⟨g, k * 4 + 1, none⟩) hgw).trans c1', (BZ.cell (p := ⟨g, k * 4 + 3, none⟩) hgw).trans c3⟩) | (exact ⟨(BZ.drew.cell (p := ⟨bo, 0, none⟩) hbw).trans o1, (BZ.drew.cell (p := ⟨bo, 1, none⟩) hbw).trans o2, (BZ.drew.cell (p := ⟨bo, 2, none⟩) hbw).trans o3, (BZ.drew.cell (p := ⟨g, k * 4 + 1, none⟩) hgw).trans c1', (BZ.drew.cell (p := ⟨g, k * 4 + 3, none⟩) hgw).trans c3⟩)
            clear hK K
            (try simp only [Act.put, List.setIfInBounds_toArray, List.set_cons_zero, List.set_cons_succ])
            refine wpAnyH_ready (rs := [19]) (by kernel_rfl) (by simp) ?_
            refine (AllReadyH.cons (by rw [List.getElem?_toArray]; rfl) (fun K hK => ?_) AllReadyH.nil)
            go_simp
            (try clear x0 x1 x2 x3 x4 x5 x6); (try clear z0 z1 z2 z3 z4 z5 z6 z7 z8); (have PB := put3_butK v j14 (.int .i64 ep) (.int .i64 (u + 1)) (.slice a2 (TT + 1) c2')); (replace X14 := X14.set (.int .i64 ep) (.int .i64 (u + 1)) (.slice a2 (TT + 1) c2')); (replace X15 := X15.but PB (by omega)); (replace OW := own_neK OW PB e14); (replace BZ := BZ.trans (PB.below h14 (Nat.le_trans (Nat.le_of_eq hbz.symm) BZ.size))); clear PB; (generalize (((v.setCell ⟨j14, 0, none⟩ (.int .i64 ep)).setCell ⟨j14, 1, none⟩ (.int .i64 (u + 1))).setCell ⟨j14, 2, none⟩ (.slice a2 (TT + 1) c2')) = v at *); (try (obtain ⟨x0, x1, x2, x3, x4, x5, x6⟩ := id X14)); (try (obtain ⟨⟨z0, z1, z2, z3, z4⟩, z5, z6, z7, z8⟩ := id X15))
            refine hK.out _ _ ?_ (fun hHeld => ?_)
            · first | (exact ⟨(BZ.cell (p := ⟨bo, 0, none⟩) hbw).trans o1, (BZ.cell (p := ⟨bo, 1, none⟩) hbw).trans o2, (BZ.cell (p := ⟨bo, 2, none⟩) hbw).trans o3, (BZ.cell (p := ⟨g, k * 4 + 1, none⟩) hgw).trans c1', (BZ.cell (p := ⟨g, k * 4 + 3, none⟩) hgw).trans c3⟩) | (exact ⟨(BZ.drew.cell (p := ⟨bo, 0, none⟩) hbw).trans o1, (BZ.drew.cell (p := ⟨bo, 1, none⟩) hbw).trans o2, (BZ.drew.cell (p := ⟨bo, 2, none⟩) hbw).trans o3, (BZ.drew.cell (p := ⟨g, k * 4 + 1, none⟩) hgw).trans c1', (BZ.drew.cell (p := ⟨g, k * 4 + 3, none⟩) hgw).trans c3⟩)
            clear hK K
            (try simp only [Act.put, List.setIfInBounds_toArray, List.set_cons_zero, List.set_cons_succ])
            refine wpAnyH_ready (rs := [20]) (by kernel_rfl) (by simp) ?_
            refine (AllReadyH.cons (by rw [List.getElem?_toArray]; rfl) (fun K hK => ?_) AllReadyH.nil)
            go_simp
            (try clear x0 x1 x2 x3 x4 x5 x6); (try clear z0 z1 z2 z3 z4 z5 z6 z7 z8); (have PB : But j15 v (put4 v j15 nn y1 x (y3 + 1)) := put4_butK v j15 nn y1 x (y3 + 1)); (replace X15 := X15.set nn y1 x (y3 + 1)); (replace X14 := X14.but PB (by omega)); (replace OW := own_neK OW PB e15); (replace BZ := BZ.trans (PB.below h15 (Nat.le_trans (Nat.le_of_eq hbz.symm) BZ.size))); clear PB
            refine hK.out _ _ ?_ (fun hHeld => ?_)
            · first | (exact ⟨(BZ.cell (p := ⟨bo, 0, none⟩) hbw).trans o1, (BZ.cell (p := ⟨bo, 1, none⟩) hbw).trans o2, (BZ.cell (p := ⟨bo, 2, none⟩) hbw).trans o3, (BZ.cell (p := ⟨g, k * 4 + 1, none⟩) hgw).trans c1', (BZ.cell (p := ⟨g, k * 4 + 3, none⟩) hgw).trans c3⟩) | (exact ⟨(BZ.drew.cell (p := ⟨bo, 0, none⟩) hbw).trans o1, (BZ.drew.cell (p := ⟨bo, 1, none⟩) hbw).trans o2, (BZ.drew.cell (p := ⟨bo, 2, none⟩) hbw).trans o3, (BZ.drew.cell (p := ⟨g, k * 4 + 1, none⟩) hgw).trans c1', (BZ.drew.cell (p := ⟨g, k * 4 + 3, none⟩) hgw).trans c3⟩)
            clear hK K
            (try simp only [Act.put, List.setIfInBounds_toArray, List.set_cons_zero, List.set_cons_succ])
            refine wpAnyH_done (by kernel_rfl) ?_ _
            go_wp2_with fail
            go_meet
            case rel => exact ⟨j14, j15, a2, c2', rfl, rfl, X14, X15, OW, h14, h15, BZ⟩
        · go_simp
          (try clear x0 x1 x2 x3 x4 x5 x6); (try clear z0 z1 z2 z3 z4 z5 z6 z7 z8); (have X14 := Bx3.new v (.int .i64 0) (.int .i64 0) (.slice none 0 0) 26); (have A7 := Below.nw v (.cells #[.int .i64 0, .int .i64 0, .slice none 0 0] 26)); (have h14 : bz ≤ v.heap.size := (Nat.le_trans (Nat.le_of_eq hbz.symm) BZ.size)); (replace BZ := BZ.trans (A7.mono (Nat.le_trans (Nat.le_of_eq hbz.symm) BZ.size))); clear A7; (generalize v.heap.size = j14 at *); (generalize v.alloc (.cells #[.int .i64 0, .int .i64 0, .slice none 0 0] 26) = v at *); (try (obtain ⟨x0, x1, x2, x3, x4, x5, x6⟩ := id X14)); (try (obtain ⟨⟨z0, z1, z2, z3, z4⟩, z5, z6, z7, z8⟩ := id X15))
          refine hK.out _ _ ?_ (fun hHeld => ?_)
          · first | (exact ⟨(BZ.cell (p := ⟨bo, 0, none⟩) hbw).trans o1, (BZ.cell (p := ⟨bo, 1, none⟩) hbw).trans o2, (BZ.cell (p := ⟨bo, 2, none⟩) hbw).trans o3, (BZ.cell (p := ⟨g, k * 4 + 1, none⟩) hgw).trans c1', (BZ.cell (p := ⟨g, k * 4 + 3, none⟩) hgw).trans c3⟩) | (exact ⟨(BZ.drew.cell (p := ⟨bo, 0, none⟩) hbw).trans o1, (BZ.drew.cell (p := ⟨bo, 1, none⟩) hbw).trans o2, (BZ.drew.cell (p := ⟨bo, 2, none⟩) hbw).trans o3, (BZ.drew.cell (p := ⟨g, k * 4 + 1, none⟩) hgw).trans c1', (BZ.drew.cell (p := ⟨g, k * 4 + 3, none⟩) hgw).trans c3⟩)
          clear hK K
          (try simp only [Act.put, List.setIfInBounds_toArray, List.set_cons_zero, List.set_cons_succ])
          refine wpAnyH_ready (rs := [13, 18]) (by kernel_rfl) (by simp) ?_
          refine (AllReadyH.cons (by rw [List.getElem?_toArray]; rfl) (fun K hK => ?_) (AllReadyH.cons (by rw [List.getElem?_toArray]; rfl) (fun K hK => ?_) AllReadyH.nil))
          · go_simp
            (try clear x0 x1 x2 x3 x4 x5 x6); (try clear z0 z1 z2 z3 z4 z5 z6 z7 z8); refine (CP _ BZ).mono ?_; rintro e v ⟨a2, c2', rfl, OW, hb⟩; (have hsv := (Nat.le_trans (Nat.le_of_eq hbz.symm) BZ.size)); (have e14 : ∀ g, Value.ownBlock (Value.slice a2 (TT + 1) c2') = some g → g ≠ j14 := fun g hg => by have := (World.ownsRow.lt OW g hg).1; have := X14.1; omega); (replace X14 := X14.below hb); (replace OW := ownK_le OW hsv); (replace BZ := BZ.trans (hb.mono (Nat.le_trans (Nat.le_of_eq hbz.symm) BZ.size))); clear hb hsv; (try (obtain ⟨x0, x1, x2, x3, x4, x5, x6⟩ := id X14)); (try (obtain ⟨⟨z0, z1, z2, z3, z4⟩, z5, z6, z7, z8⟩ := id X15))
            (try go_wp2_with fail)
            refine hK.out _ _ ?_ (fun hHeld => ?_)
            · first | (exact ⟨(BZ.cell (p := ⟨bo, 0, none⟩) hbw).trans o1, (BZ.cell (p := ⟨bo, 1, none⟩) hbw).trans o2, (BZ.cell (p := ⟨bo, 2, none⟩) hbw).trans o3, (BZ.cell (p := ⟨g, k * 4 + 1, none⟩) hgw).trans c1', (BZ.cell (p := ⟨g, k * 4 + 3, none⟩) hgw).trans c3⟩) | (exact ⟨(BZ.drew.cell (p := ⟨bo, 0, none⟩) hbw).trans o1, (BZ.drew.cell (p := ⟨bo, 1, none⟩) hbw).trans o2, (BZ.drew.cell (p := ⟨bo, 2, none⟩) hbw).trans o3, (BZ.drew.cell (p := ⟨g, k * 4 + 1, none⟩) hgw).trans c1', (BZ.drew.cell (p := ⟨g, k * 4 + 3, none⟩) hgw).trans c3⟩)
            clear hK K
            (try simp only [Act.put, List.setIfInBounds_toArray, List.set_cons_zero, List.set_cons_succ])
            refine wpAnyH_take (i := 14) (v := ?_) (by rw [List.getElem?_toArray]; rfl) (by kernel_rfl) (by kernel_rfl) (by kernel_rfl) (by intro _ _ _ h; exact h) (Or.inl ⟨by rfl, ?_⟩) (by assumption) ?_
            rotate_left
            · (intro w hSw; (try dsimp only at hSw); go_simp; all_goals with_reducible rfl)
            (try simp only [Act.put, List.setIfInBounds_toArray, List.set_cons_zero, List.set_cons_succ])
            refine wpAnyH_take (i := 15) (v := ?_) (by rw [List.getElem?_toArray]; rfl) (by kernel_rfl) (by kernel_rfl) (by kernel_rfl) (by intro _ _ _ h; exact h) (Or.inl ⟨by rfl, ?_⟩) (by assumption) ?_
            rotate_left
            · (intro w hSw; (try dsimp only at hSw); go_simp; all_goals with_reducible rfl)
            (try simp only [Act.put, List.setIfInBounds_toArray, List.set_cons_zero, List.set_cons_succ])
            refine wpAnyH_take (i := 16) (v := ?_) (by rw [List.getElem?_toArray]; rfl) (by kernel_rfl) (by kernel_rfl) (by kernel_rfl) (by intro _ _ _ h; exact h) (Or.inl ⟨by rfl, ?_⟩) (by assumption) ?_
            rotate_left
            · (intro w hSw; (try dsimp only at hSw); go_simp; all_goals with_reducible rfl)
            (try simp only [Act.put, List.setIfInBounds_toArray, List.set_cons_zero, List.set_cons_succ])
            refine wpAnyH_ready (rs := [18]) (by kernel_rfl) (by simp) ?_
            refine (AllReadyH.cons (by rw [List.getElem?_toArray]; rfl) (fun K hK => ?_) AllReadyH.nil)
            go_simp
            (try clear x0 x1 x2 x3 x4 x5 x6); (try clear z0 z1 z2 z3 z4 z5 z6 z7 z8); (have X15 := Bf4.new v 0 0 0 0 34); (have A7 := Below.nw v (.cells #[.int .i64 0, .int .i64 0, .int .i64 0, .int .i64 0] 34)); (have h15 : bz ≤ v.heap.size := (Nat.le_trans (Nat.le_of_eq hbz.symm) BZ.size)); (have n45 : j14 < v.heap.size := X14.1); (replace X14 := X14.below A7); (have e15 : ∀ g, Value.ownBlock (Value.slice a2 (TT + 1) c2') = some g → g ≠ v.heap.size := fun g hg => by have := (World.ownsRow.lt OW g hg).2; omega); (replace OW := own_belK' OW A7); (replace BZ := BZ.trans (A7.mono (Nat.le_trans (Nat.le_of_eq hbz.symm) BZ.size))); clear A7; (generalize v.heap.size = j15 at *); (generalize v.alloc (.cells #[.int .i64 0, .int .i64 0, .int .i64 0, .int .i64 0] 34) = v at *); (try (obtain ⟨x0, x1, x2, x3, x4, x5, x6⟩ := id X14)); (try (obtain ⟨⟨z0, z1, z2, z3, z4⟩, z5, z6, z7, z8⟩ := id X15))
            refine hK.out _ _ ?_ (fun hHeld => ?_)
            · first | (exact ⟨(BZ.cell (p := ⟨bo, 0, none⟩) hbw).trans o1, (BZ.cell (p := ⟨bo, 1, none⟩) hbw).trans o2, (BZ.cell (p := ⟨bo, 2, none⟩) hbw).trans o3, (BZ.cell (p := ⟨g, k * 4 + 1, none⟩) hgw).trans c1', (BZ.cell (p := ⟨g, k * 4 + 3, none⟩) hgw).trans c3⟩) | (exact ⟨(BZ.drew.cell (p := ⟨bo, 0, none⟩) hbw).trans o1, (BZ.drew.cell (p := ⟨bo, 1, none⟩) hbw).trans o2, (BZ.drew.cell (p := ⟨bo, 2, none⟩) hbw).trans o3, (BZ.drew.cell (p := ⟨g, k * 4 + 1, none⟩) hgw).trans c1', (BZ.drew.cell (p := ⟨g, k * 4 + 3, none⟩) hgw).trans c3⟩)
            clear hK K
            (try simp only [Act.put, List.setIfInBounds_toArray, List.set_cons_zero, List.set_cons_succ])
            refine wpAnyH_ready (rs := [19]) (by kernel_rfl) (by simp) ?_
            refine (AllReadyH.cons (by rw [List.getElem?_toArray]; rfl) (fun K hK => ?_) AllReadyH.nil)
            go_simp
            (try clear x0 x1 x2 x3 x4 x5 x6); (try clear z0 z1 z2 z3 z4 z5 z6 z7 z8); (have PB := put3_butK v j14 (.int .i64 ep) (.int .i64 (u + 1)) (.slice a2 (TT + 1) c2')); (replace X14 := X14.set (.int .i64 ep) (.int .i64 (u + 1)) (.slice a2 (TT + 1) c2')); (replace X15 := X15.but PB (by omega)); (replace OW := own_neK OW PB e14); (replace BZ := BZ.trans (PB.below h14 (Nat.le_trans (Nat.le_of_eq hbz.symm) BZ.size))); clear PB; (generalize (((v.setCell ⟨j14, 0, none⟩ (.int .i64 ep)).setCell ⟨j14, 1, none⟩ (.int .i64 (u + 1))).setCell ⟨j14, 2, none⟩ (.slice a2 (TT + 1) c2')) = v at *); (try (obtain ⟨x0, x1, x2, x3, x4, x5, x6⟩ := id X14)); (try (obtain ⟨⟨z0, z1, z2, z3, z4⟩, z5, z6, z7, z8⟩ := id X15))
            refine hK.out _ _ ?_ (fun hHeld => ?_)
            · first | (exact ⟨(BZ.cell (p := ⟨bo, 0, none⟩) hbw).trans o1, (BZ.cell (p := ⟨bo, 1, none⟩) hbw).trans o2, (BZ.cell (p := ⟨bo, 2, none⟩) hbw).trans o3, (BZ.cell (p := ⟨g, k * 4 + 1, none⟩) hgw).trans c1', (BZ.cell (p := ⟨g, k * 4 + 3, none⟩) hgw).trans c3⟩) | (exact ⟨(BZ.drew.cell (p := ⟨bo, 0, none⟩) hbw).trans o1, (BZ.drew.cell (p := ⟨bo, 1, none⟩) hbw).trans o2, (BZ.drew.cell (p := ⟨bo, 2, none⟩) hbw).trans o3, (BZ.drew.cell (p := ⟨g, k * 4 + 1, none⟩) hgw).trans c1', (BZ.drew.cell (p := ⟨g, k * 4 + 3, none⟩) hgw).trans c3⟩)
            clear hK K
            (try simp only [Act.put, List.setIfInBounds_toArray, List.set_cons_zero, List.set_cons_succ])
            refine wpAnyH_ready (rs := [20]) (by kernel_rfl) (by simp) ?_
            refine (AllReadyH.cons (by rw [List.getElem?_toArray]; rfl) (fun K hK => ?_) AllReadyH.nil)
            go_simp
            (try clear x0 x1 x2 x3 x4 x5 x6); (try clear z0 z1 z2 z3 z4 z5 z6 z7 z8); (have PB : But j15 v (put4 v j15 nn y1 x (y3 + 1)) := put4_butK v j15 nn y1 x (y3 + 1)); (replace X15 := X15.set nn y1 x (y3 + 1)); (replace X14 := X14.but PB (by omega)); (replace OW := own_neK OW PB e15); (replace BZ := BZ.trans (PB.below h15 (Nat.le_trans (Nat.le_of_eq hbz.symm) BZ.size))); clear PB
            refine hK.out _ _ ?_ (fun hHeld => ?_)
            · first | (exact ⟨(BZ.cell (p := ⟨bo, 0, none⟩) hbw).trans o1, (BZ.cell (p := ⟨bo, 1, none⟩) hbw).trans o2, (BZ.cell (p := ⟨bo, 2, none⟩) hbw).trans o3, (BZ.cell (p := ⟨g, k * 4 + 1, none⟩) hgw).trans c1', (BZ.cell (p := ⟨g, k * 4 + 3, none⟩) hgw).trans c3⟩) | (exact ⟨(BZ.drew.cell (p := ⟨bo, 0, none⟩) hbw).trans o1, (BZ.drew.cell (p := ⟨bo, 1, none⟩) hbw).trans o2, (BZ.drew.cell (p := ⟨bo, 2, none⟩) hbw).trans o3, (BZ.drew.cell (p := ⟨g, k * 4 + 1, none⟩) hgw).trans c1', (BZ.drew.cell (p := ⟨g, k * 4 + 3, none⟩) hgw).trans c3⟩)
            clear hK K
            (try simp only [Act.put, List.setIfInBounds_toArray, List.set_cons_zero, List.set_cons_succ])
            refine wpAnyH_done (by kernel_rfl) ?_ _
            go_wp2_with fail
            go_meet
            case rel => exact ⟨j14, j15, a2, c2', rfl, rfl, X14, X15, OW, h14, h15, BZ⟩
          · go_simp
            (try clear x0 x1 x2 x3 x4 x5 x6); (try clear z0 z1 z2 z3 z4 z5 z6 z7 z8); (have X15 := Bf4.new v 0 0 0 0 34); (have A7 := Below.nw v (.cells #[.int .i64 0, .int .i64 0, .int .i64 0, .int .i64 0] 34)); (have h15 : bz ≤ v.heap.size := (Nat.le_trans (Nat.le_of_eq hbz.symm) BZ.size)); (have n45 : j14 < v.heap.size := X14.1); (replace X14 := X14.below A7); (replace BZ := BZ.trans (A7.mono (Nat.le_trans (Nat.le_of_eq hbz.symm) BZ.size))); clear A7; (generalize v.heap.size = j15 at *); (generalize v.alloc (.cells #[.int .i64 0, .int .i64 0, .int .i64 0, .int .i64 0] 34) = v at *); (try (obtain ⟨x0, x1, x2, x3, x4, x5, x6⟩ := id X14)); (try (obtain ⟨⟨z0, z1, z2, z3, z4⟩, z5, z6, z7, z8⟩ := id X15))
            refine hK.out _ _ ?_ (fun hHeld => ?_)
            · first | (exact ⟨(BZ.cell (p := ⟨bo, 0, none⟩) hbw).trans o1, (BZ.cell (p := ⟨bo, 1, none⟩) hbw).trans o2, (BZ.cell (p := ⟨bo, 2, none⟩) hbw).trans o3, (BZ.cell (p := ⟨g, k * 4 + 1, none⟩) hgw).trans c1', (BZ.cell (p := ⟨g, k * 4 + 3, none⟩) hgw).trans c3⟩) | (exact ⟨(BZ.drew.cell (p := ⟨bo, 0, none⟩) hbw).trans o1, (BZ.drew.cell (p := ⟨bo, 1, none⟩) hbw).trans o2, (BZ.drew.cell (p := ⟨bo, 2, none⟩) hbw).trans o3, (BZ.drew.cell (p := ⟨g, k * 4 + 1, none⟩) hgw).trans c1', (BZ.drew.cell (p := ⟨g, k * 4 + 3, none⟩) hgw).trans c3⟩)
            clear hK K
            (try simp only [Act.put, List.setIfInBounds_toArray, List.set_cons_zero, List.set_cons_succ])
            refine wpAnyH_ready (rs := [13]) (by kernel_rfl) (by simp) ?_
            refine (AllReadyH.cons (by rw [List.getElem?_toArray]; rfl) (fun K hK => ?_) AllReadyH.nil)
            go_simp
            (try clear x0 x1 x2 x3 x4 x5 x6); (try clear z0 z1 z2 z3 z4 z5 z6 z7 z8); refine (CP _ BZ).mono ?_; rintro e v ⟨a2, c2', rfl, OW, hb⟩; (have hsv := (Nat.le_trans (Nat.le_of_eq hbz.symm) BZ.size)); (have e14 : ∀ g, Value.ownBlock (Value.slice a2 (TT + 1) c2') = some g → g ≠ j14 := fun g hg => by have := (World.ownsRow.lt OW g hg).1; have := X14.1; omega); (replace X14 := X14.below hb); (have e15 : ∀ g, Value.ownBlock (Value.slice a2 (TT + 1) c2') = some g → g ≠ j15 := fun g hg => by have := (World.ownsRow.lt OW g hg).1; have := X15.1.1; omega); (replace X15 := X15.below hb); (replace OW := ownK_le OW hsv); (replace BZ := BZ.trans (hb.mono (Nat.le_trans (Nat.le_of_eq hbz.symm) BZ.size))); clear hb hsv; (try (obtain ⟨x0, x1, x2, x3, x4, x5, x6⟩ := id X14)); (try (obtain ⟨⟨z0, z1, z2, z3, z4⟩, z5, z6, z7, z8⟩ := id X15))
            (try go_wp2_with fail)
            refine hK.out _ _ ?_ (fun hHeld => ?_)
            · first | (exact ⟨(BZ.cell (p := ⟨bo, 0, none⟩) hbw).trans o1, (BZ.cell (p := ⟨bo, 1, none⟩) hbw).trans o2, (BZ.cell (p := ⟨bo, 2, none⟩) hbw).trans o3, (BZ.cell (p := ⟨g, k * 4 + 1, none⟩) hgw).trans c1', (BZ.cell (p := ⟨g, k * 4 + 3, none⟩) hgw).trans c3⟩) | (exact ⟨(BZ.drew.cell (p := ⟨bo, 0, none⟩) hbw).trans o1, (BZ.drew.cell (p := ⟨bo, 1, none⟩) hbw).trans o2, (BZ.drew.cell (p := ⟨bo, 2, none⟩) hbw).trans o3, (BZ.drew.cell (p := ⟨g, k * 4 + 1, none⟩) hgw).trans c1', (BZ.drew.cell (p := ⟨g, k * 4 + 3, none⟩) hgw).trans c3⟩)
            clear hK K
            (try simp only [Act.put, List.setIfInBounds_toArray, List.set_cons_zero, List.set_cons_succ])
            refine wpAnyH_take (i := 14) (v := ?_) (by rw [List.getElem?_toArray]; rfl) (by kernel_rfl) (by kernel_rfl) (by kernel_rfl) (by intro _ _ _ h; exact h) (Or.inl ⟨by rfl, ?_⟩) (by assumption) ?_
            rotate_left
            · (intro w hSw; (try dsimp only at hSw); go_simp; all_goals with_reducible rfl)
            (try simp only [Act.put, List.setIfInBounds_toArray, List.set_cons_zero, List.set_cons_succ])
            refine wpAnyH_take (i := 15) (v := ?_) (by rw [List.getElem?_toArray]; rfl) (by kernel_rfl) (by kernel_rfl) (by kernel_rfl) (by intro _ _ _ h; exact h) (Or.inl ⟨by rfl, ?_⟩) (by assumption) ?_
            rotate_left
            · (intro w hSw; (try dsimp only at hSw); go_simp; all_goals with_reducible rfl)
            (try simp only [Act.put, List.setIfInBounds_toArray, List.set_cons_zero, List.set_cons_succ])
            refine wpAnyH_take (i := 16) (v := ?_) (by rw [List.getElem?_toArray]; rfl) (by kernel_rfl) (by kernel_rfl) (by kernel_rfl) (by intro _ _ _ h; exact h) (Or.inl ⟨by rfl, ?_⟩) (by assumption) ?_
            rotate_left
            · (intro w hSw; (try dsimp only at hSw); go_simp; all_goals with_reducible rfl)
            (try simp only [Act.put, List.setIfInBounds_toArray, List.set_cons_zero, List.set_cons_succ])
            refine wpAnyH_ready (rs := [19]) (by kernel_rfl) (by simp) ?_
            refine (AllReadyH.cons (by rw [List.getElem?_toArray]; rfl) (fun K hK => ?_) AllReadyH.nil)
            go_simp
            (try clear x0 x1 x2 x3 x4 x5 x6); (try clear z0 z1 z2 z3 z4 z5 z6 z7 z8); (have PB := put3_butK v j14 (.int .i64 ep) (.int .i64 (u + 1)) (.slice a2 (TT + 1) c2')); (replace X14 := X14.set (.int .i64 ep) (.int .i64 (u + 1)) (.slice a2 (TT + 1) c2')); (replace X15 := X15.but PB (by omega)); (replace OW := own_neK OW PB e14); (replace BZ := BZ.trans (PB.below h14 (Nat.le_trans (Nat.le_of_eq hbz.symm) BZ.size))); clear PB; (generalize (((v.setCell ⟨j14, 0, none⟩ (.int .i64 ep)).setCell ⟨j14, 1, none⟩ (.int .i64 (u + 1))).setCell ⟨j14, 2, none⟩ (.slice a2 (TT + 1) c2')) = v at *); (try (obtain ⟨x0, x1, x2, x3, x4, x5, x6⟩ := id X14)); (try (obtain ⟨⟨z0, z1, z2, z3, z4⟩, z5, z6, z7, z8⟩ := id X15))
            refine hK.out _ _ ?_ (fun hHeld => ?_)
            · first | (exact ⟨(BZ.cell (p := ⟨bo, 0, none⟩) hbw).trans o1, (BZ.cell (p := ⟨bo, 1, none⟩) hbw).trans o2, (BZ.cell (p := ⟨bo, 2, none⟩) hbw).trans o3, (BZ.cell (p := ⟨g, k * 4 + 1, none⟩) hgw).trans c1', (BZ.cell (p := ⟨g, k * 4 + 3, none⟩) hgw).trans c3⟩) | (exact ⟨(BZ.drew.cell (p := ⟨bo, 0, none⟩) hbw).trans o1, (BZ.drew.cell (p := ⟨bo, 1, none⟩) hbw).trans o2, (BZ.drew.cell (p := ⟨bo, 2, none⟩) hbw).trans o3, (BZ.drew.cell (p := ⟨g, k * 4 + 1, none⟩) hgw).trans c1', (BZ.drew.cell (p := ⟨g, k * 4 + 3, none⟩) hgw).trans c3⟩)
            clear hK K
            (try simp only [Act.put, List.setIfInBounds_toArray, List.set_cons_zero, List.set_cons_succ])
            refine wpAnyH_ready (rs := [20]) (by kernel_rfl) (by simp) ?_
            refine (AllReadyH.cons (by rw [List.getElem?_toArray]; rfl) (fun K hK => ?_) AllReadyH.nil)
            go_simp
            (try clear x0 x1 x2 x3 x4 x5 x6); (try clear z0 z1 z2 z3 z4 z5 z6 z7 z8); (have PB : But j15 v (put4 v j15 nn y1 x (y3 + 1)) := put4_butK v j15 nn y1 x (y3 + 1)); (replace X15 := X15.set nn y1 x (y3 + 1)); (replace X14 := X14.but PB (by omega)); (replace OW := own_neK OW PB e15); (replace BZ := BZ.trans (PB.below h15 (Nat.le_trans (Nat.le_of_eq hbz.symm) BZ.size))); clear PB
            refine hK.out _ _ ?_ (fun hHeld => ?_)
            · first | (exact ⟨(BZ.cell (p := ⟨bo, 0, none⟩) hbw).trans o1, (BZ.cell (p := ⟨bo, 1, none⟩) hbw).trans o2, (BZ.cell (p := ⟨bo, 2, none⟩) hbw).trans o3, (BZ.cell (p := ⟨g, k * 4 + 1, none⟩) hgw).trans c1', (BZ.cell (p := ⟨g, k * 4 + 3, none⟩) hgw).trans c3⟩) | (exact ⟨(BZ.drew.cell (p := ⟨bo, 0, none⟩) hbw).trans o1, (BZ.drew.cell (p := ⟨bo, 1, none⟩) hbw).trans o2, (BZ.drew.cell (p := ⟨bo, 2, none⟩) hbw).trans o3, (BZ.drew.cell (p := ⟨g, k * 4 + 1, none⟩) hgw).trans c1', (BZ.drew.cell (p := ⟨g, k * 4 + 3, none⟩) hgw).trans c3⟩)
            clear hK K
            (try simp only [Act.put, List.setIfInBounds_toArray, List.set_cons_zero, List.set_cons_succ])
            refine wpAnyH_done (by kernel_rfl) ?_ _
            go_wp2_with fail
            go_meet
            case rel => exact ⟨j14, j15, a2, c2', rfl, rfl, X14, X15, OW, h14, h15, BZ⟩
        · go_simp
          (try clear x0 x1 x2 x3 x4 x5 x6); (try clear z0 z1 z2 z3 z4 z5 z6 z7 z8); (have X15 := Bf4.new v 0 0 0 0 34); (have A7 := Below.nw v (.cells #[.int .i64 0, .int .i64 0, .int .i64 0, .int .i64 0] 34)); (have h15 : bz ≤ v.heap.size := (Nat.le_trans (Nat.le_of_eq hbz.symm) BZ.size)); (replace BZ := BZ.trans (A7.mono (Nat.le_trans (Nat.le_of_eq hbz.symm) BZ.size))); clear A7; (generalize v.heap.size = j15 at *); (generalize v.alloc (.cells #[.int .i64 0, .int .i64 0, .int .i64 0, .int .i64 0] 34) = v at *); (try (obtain ⟨x0, x1, x2, x3, x4, x5, x6⟩ := id X14)); (try (obtain ⟨⟨z0, z1, z2, z3, z4⟩, z5, z6, z7, z8⟩ := id X15))
          refine hK.out _ _ ?_ (fun hHeld => ?_)
          · first | (exact ⟨(BZ.cell (p := ⟨bo, 0, none⟩) hbw).trans o1, (BZ.cell (p := ⟨bo, 1, none⟩) hbw).trans o2, (BZ.cell (p := ⟨bo, 2, none⟩) hbw).trans o3, (BZ.cell (p := ⟨g, k * 4 + 1, none⟩) hgw).trans c1', (BZ.cell (p := ⟨g, k * 4 + 3, none⟩) hgw).trans c3⟩) | (exact ⟨(BZ.drew.cell (p := ⟨bo, 0, none⟩) hbw).trans o1, (BZ.drew.cell (p := ⟨bo, 1, none⟩) hbw).trans o2, (BZ.drew.cell (p := ⟨bo, 2, none⟩) hbw).trans o3, (BZ.drew.cell (p := ⟨g, k * 4 + 1, none⟩) hgw).trans c1', (BZ.drew.cell (p := ⟨g, k * 4 + 3, none⟩) hgw).trans c3⟩)
          clear hK K
          (try simp only [Act.put, List.setIfInBounds_toArray, List.set_cons_zero, List.set_cons_succ])
          refine wpAnyH_ready (rs := [13, 17]) (by kernel_rfl) (by simp) ?_
          refine (AllReadyH.cons (by rw [List.getElem?_toArray]; rfl) (fun K hK => ?_) (AllReadyH.cons (by rw [List.getElem?_toArray]; rfl) (fun K hK => ?_) AllReadyH.nil))
          · go_simp
            (try clear x0 x1 x2 x3 x4 x5 x6); (try clear z0 z1 z2 z3 z4 z5 z6 z7 z8); refine (CP _ BZ).mono ?_; rintro e v ⟨a2, c2', rfl, OW, hb⟩; (have hsv := (Nat.le_trans (Nat.le_of_eq hbz.symm) BZ.size)); (have e15 : ∀ g, Value.ownBlock (Value.slice a2 (TT + 1) c2') = some g → g ≠ j15 := fun g hg => by have := (World.ownsRow.lt OW g hg).1; have := X15.1.1; omega); (replace X15 := X15.below hb); (replace OW := ownK_le OW hsv); (replace BZ := BZ.trans (hb.mono (Nat.le_trans (Nat.le_of_eq hbz.symm) BZ.size))); clear hb hsv; (try (obtain ⟨x0, x1, x2, x3, x4, x5, x6⟩ := id X14)); (try (obtain ⟨⟨z0, z1, z2, z3, z4⟩, z5, z6, z7, z8⟩ := id X15))
            (try go_wp2_with fail)
            refine hK.out _ _ ?_ (fun hHeld => ?_)
            · first | (exact ⟨(BZ.cell (p := ⟨bo, 0, none⟩) hbw).trans o1, (BZ.cell (p := ⟨bo, 1, none⟩) hbw).trans o2, (BZ.cell (p := ⟨bo, 2, none⟩) hbw).trans o3, (BZ.cell (p := ⟨g, k * 4 + 1, none⟩) hgw).trans c1', (BZ.cell (p := ⟨g, k * 4 + 3, none⟩) hgw).trans c3⟩) | (exact ⟨(BZ.drew.cell (p := ⟨bo, 0, none⟩) hbw).trans o1, (BZ.drew.cell (p := ⟨bo, 1, none⟩) hbw).trans o2, (BZ.drew.cell (p := ⟨bo, 2, none⟩) hbw).trans o3, (BZ.drew.cell (p := ⟨g, k * 4 + 1, none⟩) hgw).trans c1', (BZ.drew.cell (p := ⟨g, k * 4 + 3, none⟩) hgw).trans c3⟩)
            clear hK K
            (try simp only [Act.put, List.setIfInBounds_toArray, List.set_cons_zero, List.set_cons_succ])
            refine wpAnyH_take (i := 14) (v := ?_) (by rw [List.getElem?_toArray]; rfl) (by kernel_rfl) (by kernel_rfl) (by kernel_rfl) (by intro _ _ _ h; exact h) (Or.inl ⟨by rfl, ?_⟩) (by assumption) ?_
            rotate_left
            · (intro w hSw; (try dsimp only at hSw); go_simp; all_goals with_reducible rfl)
            (try simp only [Act.put, List.setIfInBounds_toArray, List.set_cons_zero, List.set_cons_succ])
            refine wpAnyH_take (i := 15) (v := ?_) (by rw [List.getElem?_toArray]; rfl) (by kernel_rfl) (by kernel_rfl) (by kernel_rfl) (by intro _ _ _ h; exact h) (Or.inl ⟨by rfl, ?_⟩) (by assumption) ?_
            rotate_left
            · (intro w hSw; (try dsimp only at hSw); go_simp; all_goals with_reducible rfl)
            (try simp only [Act.put, List.setIfInBounds_toArray, List.set_cons_zero, List.set_cons_succ])
            refine wpAnyH_take (i := 16) (v := ?_) (by rw [List.getElem?_toArray]; rfl) (by kernel_rfl) (by kernel_rfl) (by kernel_rfl) (by intro _ _ _ h; exact h) (Or.inl ⟨by rfl, ?_⟩) (by assumption) ?_
            rotate_left
            · (intro w hSw; (try dsimp only at hSw); go_simp; all_goals with_reducible rfl)
            (try simp only [Act.put, List.setIfInBounds_toArray, List.set_cons_zero, List.set_cons_succ])
            refine wpAnyH_ready (rs := [17]) (by kernel_rfl) (by simp) ?_
            refine (AllReadyH.cons (by rw [List.getElem?_toArray]; rfl) (fun K hK => ?_) AllReadyH.nil)
            go_simp
            (try clear x0 x1 x2 x3 x4 x5 x6); (try clear z0 z1 z2 z3 z4 z5 z6 z7 z8); (have X14 := Bx3.new v (.int .i64 0) (.int .i64 0) (.slice none 0 0) 26); (have A7 := Below.nw v (.cells #[.int .i64 0, .int .i64 0, .slice none 0 0] 26)); (have h14 : bz ≤ v.heap.size := (Nat.le_trans (Nat.le_of_eq hbz.symm) BZ.size)); (have n45 : j15 < v.heap.size := X15.1.1); (replace X15 := X15.below A7); (have e14 : ∀ g, Value.ownBlock (Value.slice a2 (TT + 1) c2') = some g → g ≠ v.heap.size := fun g hg => by have := (World.ownsRow.lt OW g hg).2; omega); (replace OW := own_belK' OW A7); (replace BZ := BZ.trans (A7.mono (Nat.le_trans (Nat.le_of_eq hbz.symm) BZ.size))); clear A7; (generalize v.heap.size = j14 at *); (generalize v.alloc (.cells #[.int .i64 0, .int .i64 0, .slice none 0 0] 26) = v at *); (try (obtain ⟨x0, x1, x2, x3, x4, x5, x6⟩ := id X14)); (try (obtain ⟨⟨z0, z1, z2, z3, z4⟩, z5, z6, z7, z8⟩ := id X15))
            refine hK.out _ _ ?_ (fun hHeld => ?_)
            · first | (exact ⟨(BZ.cell (p := ⟨bo, 0, none⟩) hbw).trans o1, (BZ.cell (p := ⟨bo, 1, none⟩) hbw).trans o2, (BZ.cell (p := ⟨bo, 2, none⟩) hbw).trans o3, (BZ.cell (p := ⟨g, k * 4 + 1, none⟩) hgw).trans c1', (BZ.cell (p := ⟨g, k * 4 + 3, none⟩) hgw).trans c3⟩) | (exact ⟨(BZ.drew.cell (p := ⟨bo, 0, none⟩) hbw).trans o1, (BZ.drew.cell (p := ⟨bo, 1, none⟩) hbw).trans o2, (BZ.drew.cell (p := ⟨bo, 2, none⟩) hbw).trans o3, (BZ.drew.cell (p := ⟨g, k * 4 + 1, none⟩) hgw).trans c1', (BZ.drew.cell (p := ⟨g, k * 4 + 3, none⟩) hgw).trans c3⟩)
            clear hK K
            (try simp only [Act.put, List.setIfInBounds_toArray, List.set_cons_zero, List.set_cons_succ])
            refine wpAnyH_ready (rs := [19]) (by kernel_rfl) (by simp) ?_
            refine (AllReadyH.cons (by rw [List.getElem?_toArray]; rfl) (fun K hK => ?_) AllReadyH.nil)
            go_simp
            (try clear x0 x1 x2 x3 x4 x5 x6); (try clear z0 z1 z2 z3 z4 z5 z6 z7 z8); (have PB := put3_butK v j14 (.int .i64 ep) (.int .i64 (u + 1)) (.slice a2 (TT + 1) c2')); (replace X14 := X14.set (.int .i64 ep) (.int .i64 (u + 1)) (.slice a2 (TT + 1) c2')); (replace X15 := X15.but PB (by omega)); (replace OW := own_neK OW PB e14); (replace BZ := BZ.trans (PB.below h14 (Nat.le_trans (Nat.le_of_eq hbz.symm) BZ.size))); clear PB; (generalize (((v.setCell ⟨j14, 0, none⟩ (.int .i64 ep)).setCell ⟨j14, 1, none⟩ (.int .i64 (u + 1))).setCell ⟨j14, 2, none⟩ (.slice a2 (TT + 1) c2')) = v at *); (try (obtain ⟨x0, x1, x2, x3, x4, x5, x6⟩ := id X14)); (try (obtain ⟨⟨z0, z1, z2, z3, z4⟩, z5, z6, z7, z8⟩ := id X15))
            refine hK.out _ _ ?_ (fun hHeld => ?_)
            · first | (exact ⟨(BZ.cell (p := ⟨bo, 0, none⟩) hbw).trans o1, (BZ.cell (p := ⟨bo, 1, none⟩) hbw).trans o2, (BZ.cell (p := ⟨bo, 2, none⟩) hbw).trans o3, (BZ.cell (p := ⟨g, k * 4 + 1, none⟩) hgw).trans c1', (BZ.cell (p := ⟨g, k * 4 + 3, none⟩) hgw).trans c3⟩) | (exact ⟨(BZ.drew.cell (p := ⟨bo, 0, none⟩) hbw).trans o1, (BZ.drew.cell (p := ⟨bo, 1, none⟩) hbw).trans o2, (BZ.drew.cell (p := ⟨bo, 2, none⟩) hbw).trans o3, (BZ.drew.cell (p := ⟨g, k * 4 + 1, none⟩) hgw).trans c1', (BZ.drew.cell (p := ⟨g, k * 4 + 3, none⟩) hgw).trans c3⟩)
            clear hK K
            (try simp only [Act.put, List.setIfInBounds_toArray, List.set_cons_zero, List.set_cons_succ])
            refine wpAnyH_ready (rs := [20]) (by kernel_rfl) (by simp) ?_
            refine (AllReadyH.cons (by rw [List.getElem?_toArray]; rfl) (fun K hK => ?_) AllReadyH.nil)
            go_simp
            (try clear x0 x1 x2 x3 x4 x5 x6); (try clear z0 z1 z2 z3 z4 z5 z6 z7 z8); (have PB : But j15 v (put4 v j15 nn y1 x (y3 + 1)) := put4_butK v j15 nn y1 x (y3 + 1)); (replace X15 := X15.set nn y1 x (y3 + 1)); (replace X14 := X14.but PB (by omega)); (replace OW := own_neK OW PB e15); (replace BZ := BZ.trans (PB.below h15 (Nat.le_trans (Nat.le_of_eq hbz.symm) BZ.size))); clear PB
            refine hK.out _ _ ?_ (fun hHeld => ?_)
            · first | (exact ⟨(BZ.cell (p := ⟨bo, 0, none⟩) hbw).trans o1, (BZ.cell (p := ⟨bo, 1, none⟩) hbw).trans o2, (BZ.cell (p := ⟨bo, 2, none⟩) hbw).trans o3, (BZ.cell (p := ⟨g, k * 4 + 1, none⟩) hgw).trans c1', (BZ.cell (p := ⟨g, k * 4 + 3, none⟩) hgw).trans c3⟩) | (exact ⟨(BZ.drew.cell (p := ⟨bo, 0, none⟩) hbw).trans o1, (BZ.drew.cell (p := ⟨bo, 1, none⟩) hbw).trans o2, (BZ.drew.cell (p := ⟨bo, 2, none⟩) hbw).trans o3, (BZ.drew.cell (p := ⟨g, k * 4 + 1, none⟩) hgw).trans c1', (BZ.drew.cell (p := ⟨g, k * 4 + 3, none⟩) hgw).trans c3⟩)
            clear hK K
            (try simp only [Act.put, List.setIfInBounds_toArray, List.set_cons_zero, List.set_cons_succ])
            refine wpAnyH_done (by kernel_rfl) ?_ _
            go_wp2_with fail
            go_meet
            case rel => exact ⟨j14, j15, a2, c2', rfl, rfl, X14, X15, OW, h14, h15, BZ⟩
          · go_simp
            (try clear x0 x1 x2 x3 x4 x5 x6); (try clear z0 z1 z2 z3 z4 z5 z6 z7 z8); (have X14 := Bx3.new v (.int .i64 0) (.int .i64 0) (.slice none 0 0) 26); (have A7 := Below.nw v (.cells #[.int .i64 0, .int .i64 0, .slice none 0 0] 26)); (have h14 : bz ≤ v.heap.size := (Nat.le_trans (Nat.le_of_eq hbz.symm) BZ.size)); (have n45 : j15 < v.heap.size := X15.1.1); (replace X15 := X15.below A7); (replace BZ := BZ.trans (A7.mono (Nat.le_trans (Nat.le_of_eq hbz.symm) BZ.size))); clear A7; (generalize v.heap.size = j14 at *); (generalize v.alloc (.cells #[.int .i64 0, .int .i64 0, .slice none 0 0] 26) = v at *); (try (obtain ⟨x0, x1, x2, x3, x4, x5, x6⟩ := id X14)); (try (obtain ⟨⟨z0, z1, z2, z3, z4⟩, z5, z6, z7, z8⟩ := id X15))
            refine hK.out _ _ ?_ (fun hHeld => ?_)
            · first | (exact ⟨(BZ.cell (p := ⟨bo, 0, none⟩) hbw).trans o1, (BZ.cell (p := ⟨bo, 1, none⟩) hbw).trans o2, (BZ.cell (p := ⟨bo, 2, none⟩) hbw).trans o3, (BZ.cell (p := ⟨g, k * 4 + 1, none⟩) hgw).trans c1', (BZ.cell (p := ⟨g, k * 4 + 3, none⟩) hgw).trans c3⟩) | (exact ⟨(BZ.drew.cell (p := ⟨bo, 0, none⟩) hbw).trans o1, (BZ.drew.cell (p := ⟨bo, 1, none⟩) hbw).trans o2, (BZ.drew.cell (p := ⟨bo, 2, none⟩) hbw).trans o3, (BZ.drew.cell (p := ⟨g, k * 4 + 1, none⟩) hgw).trans c1', (BZ.drew.cell (p := ⟨g, k * 4 + 3, none⟩) hgw).trans c3⟩)
            clear hK K
            (try simp only [Act.put, List.setIfInBounds_toArray, List.set_cons_zero, List.set_cons_succ])
            refine wpAnyH_ready (rs := [13]) (by kernel_rfl) (by simp) ?_
            refine (AllReadyH.cons (by rw [List.getElem?_toArray]; rfl) (fun K hK => ?_) AllReadyH.nil)
            go_simp
            (try clear x0 x1 x2 x3 x4 x5 x6); (try clear z0 z1 z2 z3 z4 z5 z6 z7 z8); refine (CP _ BZ).mono ?_; rintro e v ⟨a2, c2', rfl, OW, hb⟩; (have hsv := (Nat.le_trans (Nat.le_of_eq hbz.symm) BZ.size)); (have e14 : ∀ g, Value.ownBlock (Value.slice a2 (TT + 1) c2') = some g → g ≠ j14 := fun g hg => by have := (World.ownsRow.lt OW g hg).1; have := X14.1; omega); (replace X14 := X14.below hb); (have e15 : ∀ g, Value.ownBlock (Value.slice a2 (TT + 1) c2') = some g → g ≠ j15 := fun g hg => by have := (World.ownsRow.lt OW g hg).1; have := X15.1.1; omega); (replace X15 := X15.below hb); (replace OW := ownK_le OW hsv); (replace BZ := BZ.trans (hb.mono (Nat.le_trans (Nat.le_of_eq hbz.symm) BZ.size))); clear hb hsv; (try (obtain ⟨x0, x1, x2, x3, x4, x5, x6⟩ := id X14)); (try (obtain ⟨⟨z0, z1, z2, z3, z4⟩, z5, z6, z7, z8⟩ := id X15))
            (try go_wp2_with fail)
            refine hK.out _ _ ?_ (fun hHeld => ?_)
            · first | (exact ⟨(BZ.cell (p := ⟨bo, 0, none⟩) hbw).trans o1, (BZ.cell (p := ⟨bo, 1, none⟩) hbw).trans o2, (BZ.cell (p := ⟨bo, 2, none⟩) hbw).trans o3, (BZ.cell (p := ⟨g, k * 4 + 1, none⟩) hgw).trans c1', (BZ.cell (p := ⟨g, k * 4 + 3, none⟩) hgw).trans c3⟩) | (exact ⟨(BZ.drew.cell (p := ⟨bo, 0, none⟩) hbw).trans o1, (BZ.drew.cell (p := ⟨bo, 1, none⟩) hbw).trans o2, (BZ.drew.cell (p := ⟨bo, 2, none⟩) hbw).trans o3, (BZ.drew.cell (p := ⟨g, k * 4 + 1, none⟩) hgw).trans c1', (BZ.drew.cell (p := ⟨g, k * 4 + 3, none⟩) hgw).trans c3⟩)
            clear hK K
            (try simp only [Act.put, List.setIfInBounds_toArray, List.set_cons_zero, List.set_cons_succ])
            refine wpAnyH_take (i := 14) (v := ?_) (by rw [List.getElem?_toArray]; rfl) (by kernel_rfl) (by kernel_rfl) (by kernel_rfl) (by intro _ _ _ h; exact h) (Or.inl ⟨by rfl, ?_⟩) (by assumption) ?_
            rotate_left
            · (intro w hSw; (try dsimp only at hSw); go_simp; all_goals with_reducible rfl)
            (try simp only [Act.put, List.setIfInBounds_toArray, List.set_cons_zero, List.set_cons_succ])
            refine wpAnyH_take (i := 15) (v := ?_) (by rw [List.getElem?_toArray]; rfl) (by kernel_rfl) (by kernel_rfl) (by kernel_rfl) (by intro _ _ _ h; exact h) (Or.inl ⟨by rfl, ?_⟩) (by assumption) ?_
            rotate_left
            · (intro w hSw; (try dsimp only at hSw); go_simp; all_goals with_reducible rfl)
            (try simp only [Act.put, List.setIfInBounds_toArray, List.set_cons_zero, List.set_cons_succ])
            refine wpAnyH_take (i := 16) (v := ?_) (by rw [List.getElem?_toArray]; rfl) (by kernel_rfl) (by kernel_rfl) (by kernel_rfl) (by intro _ _ _ h; exact h) (Or.inl ⟨by rfl, ?_⟩) (by assumption) ?_
            rotate_left
            · (intro w hSw; (try dsimp only at hSw); go_simp; all_goals with_reducible rfl)
            (try simp only [Act.put, List.setIfInBounds_toArray, List.set_cons_zero, List.set_cons_succ])
            refine wpAnyH_ready (rs := [19]) (by kernel_rfl) (by simp) ?_
            refine (AllReadyH.cons (by rw [List.getElem?_toArray]; rfl) (fun K hK => ?_) AllReadyH.nil)
            go_simp
            (try clear x0 x1 x2 x3 x4 x5 x6); (try clear z0 z1 z2 z3 z4 z5 z6 z7 z8); (have PB := put3_butK v j14 (.int .i64 ep) (.int .i64 (u + 1)) (.slice a2 (TT + 1) c2')); (replace X14 := X14.set (.int .i64 ep) (.int .i64 (u + 1)) (.slice a2 (TT + 1) c2')); (replace X15 := X15.but PB (by omega)); (replace OW := own_neK OW PB e14); (replace BZ := BZ.trans (PB.below h14 (Nat.le_trans (Nat.le_of_eq hbz.symm) BZ.size))); clear PB; (generalize (((v.setCell ⟨j14, 0, none⟩ (.int .i64 ep)).setCell ⟨j14, 1, none⟩ (.int .i64 (u + 1))).setCell ⟨j14, 2, none⟩ (.slice a2 (TT + 1) c2')) = v at *); (try (obtain ⟨x0, x1, x2, x3, x4, x5, x6⟩ := id X14)); (try (obtain ⟨⟨z0, z1, z2, z3, z4⟩, z5, z6, z7, z8⟩ := id X15))
            refine hK.out _ _ ?_ (fun hHeld => ?_)
            · first | (exact ⟨(BZ.cell (p := ⟨bo, 0, none⟩) hbw).trans o1, (BZ.cell (p := ⟨bo, 1, none⟩) hbw).trans o2, (BZ.cell (p := ⟨bo, 2, none⟩) hbw).trans o3, (BZ.cell (p := ⟨g, k * 4 + 1, none⟩) hgw).trans c1', (BZ.cell (p := ⟨g, k * 4 + 3, none⟩) hgw).trans c3⟩) | (exact ⟨(BZ.drew.cell (p := ⟨bo, 0, none⟩) hbw).trans o1, (BZ.drew.cell (p := ⟨bo, 1, none⟩) hbw).trans o2, (BZ.drew.cell (p := ⟨bo, 2, none⟩) hbw).trans o3, (BZ.drew.cell (p := ⟨g, k * 4 + 1, none⟩) hgw).trans c1', (BZ.drew.cell (p := ⟨g, k * 4 + 3, none⟩) hgw).trans c3⟩)
            clear hK K
            (try simp only [Act.put, List.setIfInBounds_toArray, List.set_cons_zero, List.set_cons_succ])
            refine wpAnyH_ready (rs := [20]) (by kernel_rfl) (by simp) ?_
            refine (AllReadyH.cons (by rw [List.getElem?_toArray]; rfl) (fun K hK => ?_) AllReadyH.nil)
            go_simp
            (try clear x0 x1 x2 x3 x4 x5 x6); (try clear z0 z1 z2 z3 z4 z5 z6 z7 z8); (have PB : But j15 v (put4 v j15 nn y1 x (y3 + 1)) := put4_butK v j15 nn y1 x (y3 + 1)); (replace X15 := X15.set nn y1 x (y3 + 1)); (replace X14 := X14.but PB (by omega)); (replace OW := own_neK OW PB e15); (replace BZ := BZ.trans (PB.below h15 (Nat.le_trans (Nat.le_of_eq hbz.symm) BZ.size))); clear PB
            refine hK.out _ _ ?_ (fun hHeld => ?_)
            · first | (exact ⟨(BZ.cell (p := ⟨bo, 0, none⟩) hbw).trans o1, (BZ.cell (p := ⟨bo, 1, none⟩) hbw).trans o2, (BZ.cell (p := ⟨bo, 2, none⟩) hbw).trans o3, (BZ.cell (p := ⟨g, k * 4 + 1, none⟩) hgw).trans c1', (BZ.cell (p := ⟨g, k * 4 + 3, none⟩) hgw).trans c3⟩) | (exact ⟨(BZ.drew.cell (p := ⟨bo, 0, none⟩) hbw).trans o1, (BZ.drew.cell (p := ⟨bo, 1, none⟩) hbw).trans o2, (BZ.drew.cell (p := ⟨bo, 2, none⟩) hbw).trans o3, (BZ.drew.cell (p := ⟨g, k * 4 + 1, none⟩) hgw).trans c1', (BZ.drew.cell (p := ⟨g, k * 4 + 3, none⟩) hgw).trans c3⟩)
            clear hK K
            (try simp only [Act.put, List.setIfInBounds_toArray, List.set_cons_zero, List.set_cons_succ])
            refine wpAnyH_done (by kernel_rfl) ?_ _
            go_wp2_with fail
            go_meet
            case rel => exact ⟨j14, j15, a2, c2', rfl, rfl, X14, X15, OW, h14, h15, BZ⟩
      case rest =>
        obtain ⟨j14, j15, a2, c2', rfl, rfl, X14, X15, OW, h14, h15, BZ2⟩ := hcut
        clear BZ CP FR o0 o1 o2 o3 o4 o5 o6 c0 c1' c2 c3
        have HOT : Hid (∀ g, Value.ownBlock (.slice a2 (TT + 1) c2') = some g → bz ≤ g) := fun g hg => (World.ownsRow.lt OW g hg).1
        have HCB : Hid (∀ g, Value.ownBlock (.slice ac cl.length cc) = some g → g < bz) := fun g hg => hbz ▸ (World.ownsRow.lt WC g hg).2
        have HLB : Hid (∀ g, Value.ownBlock (.slice al ll.length cl') = some g → g < bz) := fun g hg => hbz ▸ (World.ownsRow.lt WL g hg).2
        rw [← hbz] at BZ2
        replace O := O.below BZ2
        replace WC := own_belK' WC BZ2
        replace WL := own_belK' WL BZ2
        replace CZ := CZ.below BZ2 CZ.1
        replace R := R.below BZ2
        replace B := B.trans (BZ2.mono B.size)
        rw [hbz] at BZ2
        have hbs := BZ2.size
        clear BZ2 WT
        generalize wc = v at *
        have PB := put3_butK v bo (.int .i64 ep) (.int .i64 (u + 1)) (.slice a2 (TT + 1) c2')
        have O2 := O.set (.int .i64 ep) (.int .i64 (u + 1)) (.slice a2 (TT + 1) c2')
        obtain ⟨o0, o1, o2, o3, o4, o5, o6⟩ := id O
        obtain ⟨x0, x1, x2, x3, x4, x5, x6⟩ := id X14
        go_upto_region 10 with fail
        clear o0 o1 o2 o3 o4 o5 o6 x0 x1 x2 x3 x4 x5 x6 O X14
        have O := O2
        clear O2
        replace X15 := X15.but PB (by omega)
        replace WC := own_butK WC PB (by omega)
        replace WL := own_butK WL PB (by omega)
        replace OW := own_neK OW PB (fun g hg => by have := HOT.out g hg; omega)
        replace CZ := CZ.but PB (by omega)
        replace R := R.but PB (by omega)
        replace B := B.trans (PB.below (B := w.heap.size) (by omega) B.size)
        have hyz := PB.2.2.2.1
        clear PB
        generalize (((v.setCell ⟨bo, 0, none⟩ (.int .i64 ep)).setCell ⟨bo, 1, none⟩ (.int .i64 (u + 1))).setCell ⟨bo, 2, none⟩ (.slice a2 (TT + 1) c2')) = wy at *
        rw [HKW.out] at OW
        obtain ⟨⟨k0, k1, k2, k3, k4⟩, -, -, -, -⟩ := id X15
        have A6 := Below.nw wy (.cells #[.int .i64 nn, .int .i64 y1, .int .i64 x, .int .i64 (y3 + 1)] 34)
        have W6 := World.ownsRow.alloc WC (.cells #[.int .i64 nn, .int .i64 y1, .int .i64 x, .int .i64 (y3 + 1)] 34)
        have hs6 : bo + 1 ≤ wy.heap.size := by omega
        have HN : Hid (∀ j u, [Value.int .i64 nn, .int .i64 y1, .int .i64 x, .int .i64 ((y3 + 1))][j]? = some u → (wy.alloc (.cells #[.int .i64 nn, .int .i64 y1, .int .i64 x, .int .i64 (y3 + 1)] 34)).cell? ((⟨wy.heap.size, 0, none⟩ : Addr).add j) = some u) := fun j u hu => four_at wy nn y1 x ((y3 + 1)) 34 j u hu
        have HW : Hid (krow (rowL cl) cl.length ++ [.int .i64 nn, .int .i64 y1, .int .i64 x, .int .i64 (y3 + 1)] = krow (rowL (cl ++ [(kT nn y1 x ((y3 + 1)))])) (cl ++ [(kT nn y1 x ((y3 + 1)))]).length) := by rw [Hid, List.length_append]; exact krowL_add _ _ _ _ _
        go_wp2_with (at_builtin; refine wpList_append_new rfl _ _ 24 rfl (bo + 1) 34 i0 (.agg #[.int .i64 0, .int .i64 0, .int .i64 0, .int .i64 0]) 4 32 Try.underlying24 hi hz0 hz1 hz2 rfl (by decide) _ _ _ rfl W6 ⟨wy.heap.size, 0, none⟩ 1 1 [.int .i64 nn, .int .i64 y1, .int .i64 x, .int .i64 (y3 + 1)] rfl rfl HN.out (four_one _ _ _ _) ?c3 ?c4 ?c5 ?_)
        case c3 => unfold maxLen; omega
        case c4 => omega
        case c5 => first | omega | (simp; omega)
        intro v' wn hown' hgrow hfr
        have HFR := hfr
        rw [HW.out] at hown'
        replace hown' : wn.ownsRow (bo + 1) 34 4 v' (cl ++ [(kT nn y1 x ((y3 + 1)))]).length (krow (rowL (cl ++ [(kT nn y1 x ((y3 + 1)))])) (cl ++ [(kT nn y1 x ((y3 + 1)))]).length) := by rw [List.length_append] at *; exact hown'
        have GLW : ∀ g, Value.ownBlock (.slice ac cl.length cc) = some g → bo + 1 ≤ g ∧ g < wy.heap.size := fun g hg => World.ownsRow.lt WC g hg
        have hys : wy.heap.size < (wy.alloc (.cells #[.int .i64 nn, .int .i64 y1, .int .i64 x, .int .i64 (y3 + 1)] 34)).heap.size := by simp
        clear k0 k1 k2 k3 k4 X15
        have WL' := World.ownsRow.kept (World.ownsRow.alloc WL (.cells #[.int .i64 nn, .int .i64 y1, .int .i64 x, .int .i64 (y3 + 1)] 34)) hgrow (ne_own (fun g h1 h2 => HCL.out g h1 h2))
        have WT' := World.ownsRow.kept (World.ownsRow.alloc OW (.cells #[.int .i64 nn, .int .i64 y1, .int .i64 x, .int .i64 (y3 + 1)] 34)) hgrow (ne_own (fun g h1 h2 => by have := HCB.out g h1; have := HOT.out g h2; omega))
        have O' := (O.below A6).kept3 hgrow (fun e => by have := GLW _ e.symm; omega)
        have R' := (R.below A6).kept3 hgrow (fun e => by have := GLW _ e.symm; omega)
        have CZ' := (CZ.below A6 CZ.1).kept hgrow (fun e => by have := GLW _ e.symm; omega)
        have B' := (B.trans (A6.mono B.size)).trans (grown_bel hgrow (B.trans (A6.mono B.size)).size (fun q h e => by have := GLW _ e.symm; omega))
        have n1 : Ap v' (.slice al ll.length cl') := fun g g1 g2 => by
          rcases HFR g g1 with h | h
          · exact HCL.out g h g2
          · have := (World.ownsRow.lt WL g g2).2; omega
        have n2 : Ap v' (.slice a2 (TT + 1) c2') := fun g g1 g2 => by
          rcases HFR g g1 with h | h
          · have := HCB.out g h; have := HOT.out g g2; omega
          · have := (World.ownsRow.lt OW g g2).2; omega
        have n3 : Ap (.slice al ll.length cl') (.slice a2 (TT + 1) c2') := fun g g1 g2 => by have := HLB.out g g1; have := HOT.out g g2; omega
        have n4 : ∀ g, Value.ownBlock (.slice a2 (TT + 1) c2') = some g → g ≠ bo := fun g hg => by have := HOT.out g hg; omega
        have WT2 := ownK_le (base' := w.heap.size + 2) WT' (by omega)
        obtain ⟨a3, c3', rfl, _, _, _⟩ := ownF_src hown'
        have HRL : Hid (AsInv ep x y M n w bo (some ⟨g, 0, none⟩) (cl ++ [(kT nn y1 x (y3 + 1))]) ll (u + 1) (.slice a3 (cl ++ [(kT nn y1 x (y3 + 1))]).length c3') (.slice al ll.length cl') wn) := by
          rw [Hid, AsInv, HTL1.out]
          exact ⟨a3, c3', al, cl', a2, c2', rfl, rfl, O', WT2, hown', WL', n1, n2, n3, n4, .inr ⟨g, 0, rfl, CZ'⟩, R', B'⟩
        clear A6 W6 HN HW hgrow WL WC OW O R CZ B hown' WL' WT' WT2 O' R' CZ' B' n1 n2 n3 n4 HFR hfr GLW hys
        go_wp2_with fail
        go_roundw
        case rel => exact ⟨k + 1, by omega, by go_num, cl ++ [(kT nn y1 x (y3 + 1))], ll, u + 1, HNX.out, by simpa using HRL.out⟩
        case measure => simp [vI]; omega
    · have hkn2 : k = (gon x y (lst M n)).length := by omega
      have HE := hagE.out
      rw [← hkn2, HAG.out] at HE
      injection HE with e1 e2
      injection e2 with e2 e3
      subst e1 e2 e3
      have hli : decide ((k : Int) < ((gon x y (lst M n)).length : Int)) = false := decide_eq_false (by omega)
      have HT2 : Hid (TL.length = ((kep x y (lst M n)).length + cl.length)) := by rw [Hid, hTL.out, List.length_append]
      clear SZ
      have WT3 := WT
      rw [← hTL.out, ← HT2.out] at WT3
      rw [← HT2.out] at o3
      clear WT O
      have RQ := R.set (.int .i64 ep) (.int .i64 u) (.slice ao TL.length co)
      have PB := put3_butK wr (w.heap.size + 1) (.int .i64 ep) (.int .i64 u) (.slice ao TL.length co)
      have BQ := B.trans (PB.below (B := w.heap.size) (by omega) B.size)
      have OQ := ownK_le (base' := w.heap.size) (own_butK WT3 PB (by omega)) (by omega)
      have SQ := ownK_le (base' := w.heap.size) (own_butK WC PB (by omega)) (by omega)
      have SQ2 := ownK_le (base' := w.heap.size) (own_butK WL PB (by omega)) (by omega)
      have KZ : Hid (_ ∧ _ ∧ _ ∧ _) := ⟨OQ, SQ, SQ2, BQ⟩
      obtain ⟨r0, r1, r2, r3, r4, r5, r6⟩ := R
      clear PB OQ SQ SQ2 BQ
      go_wp2_with fail
      generalize (((wr.setCell ⟨w.heap.size + 1, 0, none⟩ (.int .i64 ep)).setCell ⟨w.heap.size + 1, 1, none⟩ (.int .i64 u)).setCell ⟨w.heap.size + 1, 2, none⟩ (.slice ao TL.length co)) = wq at *
      obtain ⟨q0, q1, q2, q3, q4, q5, q6⟩ := RQ
      exact bodyPost_ret (v := .tuple #[.agg #[.int .i64 ep, .int .i64 u, .slice ao TL.length co], .slice ac cl.length cc, .slice al ll.length cl']) (by simp (maxDischargeDepth := 6) [results, Try.results9, go_sem, q1, q2, q3]) rfl ⟨_, _, _, _, _, _, rfl, KZ.out⟩
end Go.Proofs.Ytlaladalnbdhpaa
