/- The contract of spec.NetSend. -/
import Derived.Test.YtfdcjfebfbpliaaN77
import Derived.Test.YtfdcjfebfbpliaaN73
import Derived.WalkKit
import Derived.WalkSpells
import Derived.WalkLawsBesides
import Derived.Deep.RegionHeld
namespace Go.Proofs.Ytfdcjfebfbpliaa
open Go.RowKit
set_option linter.unusedVariables false
theorem run_append_new {P : Program} (w : World) (base : Nat) (t ty e : TypeId) (i : TypeInfo) (z : Value) (size bytes : Nat) (ht : P.underlying t = some (.slice e)) (hi : P.info? e = some i) (hz : i.zero = some z)
    (hsize : i.size = size) (hby : i.bytes = bytes) (hzs : z.cells.size = size) (hsz : 0 < size)
    (v : Value) (n : Nat) (xs : List Value) (hown : w.ownsRow base e size v n xs)
    (a : Addr) (m c : Nat) (news : List Value) (hl : news.length = m * size) (hnews : ∀ j u, news[j]? = some u → w.cell? (a.add j) = some u) (h1 : ∀ u ∈ news, u.oneCell' = true)
    (h63 : n + m ≤ maxLen) (hbytes : (n + m) * bytes ≤ 140737488355328) (hbase : base ≤ w.heap.size) :
    ∃ v' w', (Builtin.append_ #[t, t] ty #[v, .slice (some a) m c]).run P w = .ok v' w' ∧ w'.ownsRow base e size v' (n + m) (xs ++ news) ∧ w.grownBy w' v.ownBlock ∧ (∀ g, v'.ownBlock = some g → v.ownBlock = some g ∨ w.heap.size ≤ g) := by
  obtain ⟨v', w', hr, h2, h3, _⟩ := run_append_own (P := P) w base t ty e i z size bytes ht hi hz hsize hby hzs hsz v n xs hown a m c news hl hnews h1 h63 hbytes hbase
  refine ⟨v', w', hr, h2, h3, ?_⟩
  subst hsize
  subst hby
  intro g0 hg0
  have hsmall : n + m ≤ 9223372036854775807 := by simp only [maxLen] at h63; omega
  rcases hown.2 with ⟨rfl, rfl⟩ | ⟨g, cap, cur, rfl, hbg, hg, hnc, hcm, hcs, htake⟩
  · by_cases hm : m = 0
    · subst hm
      obtain ⟨v2, w2, hr2, _, _, h4⟩ := run_append_own (P := P) w base t ty e i z i.size i.bytes ht hi hz rfl rfl hzs hsz _ 0 xs hown a 0 c news hl hnews h1 h63 hbytes hbase
      rw [hr] at hr2
      injection hr2 with e1 _
      rw [e1, h4.2 ⟨rfl, rfl⟩] at hg0
      simp [Value.ownBlock] at hg0
    · have hr2 := run_append_nil (P := P) w t ty e i z ht hi hz a m c news hl hnews (by omega) (by omega) (by have hb := hbytes; simp only [Nat.zero_add] at hb; omega)
      rw [hr] at hr2
      injection hr2 with e1 _
      rw [e1] at hg0
      simp [Value.ownBlock] at hg0
      exact .inr (by omega)
  · by_cases hroom : n + m ≤ cap
    · have hfit : n * i.size + news.length ≤ cur.size := by rw [hl, hcs, ← Nat.add_mul]; exact Nat.mul_le_mul_right _ hroom
      have hr2 := run_append_room (P := P) w t ty e i ht hi g n cap cur hg a m c news hl hnews h1 hroom hfit
      rw [hr] at hr2
      injection hr2 with e1 _
      rw [e1] at hg0
      exact .inl hg0
    · have holds : ∀ j u, xs[j]? = some u → w.cell? ((⟨g, 0, none⟩ : Addr).add j) = some u := hown.cells (g := g) rfl
      have hr2 := run_append_grow (P := P) w t ty e i z ht hi hz ⟨g, 0, none⟩ n cap xs hown.1 holds a m c news hl hnews (by omega) (by omega) (growslice_fits (by omega) hbytes)
      rw [hr] at hr2
      injection hr2 with e1 _
      rw [e1] at hg0
      simp [Value.ownBlock] at hg0
      exact .inr (by omega)
theorem wpList_append_new {P : Program} {w : World} {ops : Array Oper} {rest : List Oper} {o : Oper} {a : Act} {Q : Exit → Act → World → Prop} (hgd : o.guard = none) (s x : Operand) (t : TypeId)
    (ho : o.op = .call { callee := .builtin .append, args := #[s, x], argTypes := #[t, t] })
    (base : Nat) (e : TypeId) (i : TypeInfo) (z : Value) (size bytes : Nat) (ht : P.underlying t = some (.slice e)) (hi : P.info? e = some i) (hz : i.zero = some z)
    (hsize : i.size = size) (hby : i.bytes = bytes) (hzs : z.cells.size = size) (hsz : 0 < size)
    (v : Value) (n : Nat) (xs : List Value) (hs : a.eval s = v) (hown : w.ownsRow base e size v n xs)
    (ad : Addr) (m c : Nat) (news : List Value) (hx : a.eval x = .slice (some ad) m c) (hl : news.length = m * size) (hnews : ∀ j u, news[j]? = some u → w.cell? (ad.add j) = some u) (h1 : ∀ u ∈ news, u.oneCell' = true)
    (h63 : n + m ≤ maxLen) (hbytes : (n + m) * bytes ≤ 140737488355328) (hbase : base ≤ w.heap.size)
    (h : ∀ v' w', w'.ownsRow base e size v' (n + m) (xs ++ news) → w.grownBy w' v.ownBlock → (∀ g, v'.ownBlock = some g → v.ownBlock = some g ∨ w.heap.size ≤ g) → wpList P ops Q rest (a.put o.dst v') w') : wpList P ops Q (o :: rest) a w := by
  refine wpList_plain hgd fun _ hK => ?_
  obtain ⟨v', w', hr, h2, h3, h4⟩ := run_append_new (P := P) w base t o.type e i z size bytes ht hi hz hsize hby hzs hsz v n xs hown ad m c news hl hnews h1 h63 hbytes hbase
  unfold Oper.wp execOp
  simp only [ho, resolve, invoke, builtin, Sem.run_bind, Sem.run_pure, Result.andThen_ok, List.map_toArray, List.map_cons, List.map_nil, hs, hx, hr]
  exact hK _ _ (h v' w' h2 h3 h4)
theorem own_neF {w w' : World} {base p : Nat} {e : TypeId} {size : Nat} {v : Value} {n : Nat} {xs : List Value} (h : w.ownsRow base e size v n xs) (hb : But p w w') (hp : ∀ g, v.ownBlock = some g → g ≠ p) : w'.ownsRow base e size v n xs :=
  World.ownsRow.kept h hb.gr (by
    cases e : v.ownBlock with
    | none => exact .inl rfl
    | some g => exact .inr (fun q => hp g e (by injection q)))
theorem grown_belG {w w' : World} {o : Option Nat} {B : Nat} (hg : w.grownBy w' o) (hB : B ≤ w.heap.size) (hne : ∀ b, b < B → some b ≠ o) : Below B w w' := ⟨hg.os, hg.tape, hg.output, hg.size, fun k hk => hg.block k (by omega) (hne k hk)⟩
theorem frozG {w w' : World} {o : Option Nat} {b i : Nat} (hg : w.grownBy w' o) (hb : b < w.heap.size) (hne : some b ≠ o) : w'.frozen? ⟨b, i, none⟩ = w.frozen? ⟨b, i, none⟩ := by
  have := hg.block b hb hne
  simp only [World.frozen?]
  rw [this]
theorem B2.keptG {w w' : World} {j : Nat} {u0 u1 : Value} {o : Option Nat} (h : B2 w j u0 u1) (hg : w.grownBy w' o) (hne : some j ≠ o) : B2 w' j u0 u1 := by
  obtain ⟨h0, h1, h2, h3, h4⟩ := h
  exact ⟨Nat.lt_of_lt_of_le h0 hg.size, hg.cell h1 hne, hg.cell h2 hne, by rw [frozG hg h0 hne]; exact h3, by rw [frozG hg h0 hne]; exact h4⟩
theorem B2.set0 {w : World} {j : Nat} {u0 u1 : Value} (h : B2 w j u0 u1) (a0 : Value) : B2 (w.setCell ⟨j, 0, none⟩ a0) j a0 u1 := by
  obtain ⟨h0, h1, h2, h3, h4⟩ := h
  exact ⟨by simpa using h0, World.cell?_setCell_same _ _ _ h1, by rw [World.cell?_setCell_other _ _ _ _ (by simp)]; exact h2, by simpa using h3, by simpa using h4⟩
set_option maxHeartbeats 4000000 in
theorem specNetSend_bad (nx x1 x2 : Int) (x3 : ByteArray) (x4 : Int) (b n c : Nat) (M : Nat → FT) (w : World) (hm : n ≤ maxLen) (hf : Cs w b 0 (n * 5) (MFFlight M)) (hs : ∀ i, i < n → ((M i).2.2.2.1).size ≤ maxLen) (h3 : x3.size ≤ maxLen) (h : (netB nx M n && flB x1 x2 x3 x4) = false) :
    Calls Try.prog 28 #[.agg #[.int .i64 nx, .slice (some ⟨b, 0, none⟩) n c], .int .i64 x1, .int .i64 x2, .string x3, .int .i64 x4] w fun e w' => e = .returned (.tuple #[.agg #[.int .i64 0, .slice none 0 0], .int .i64 1]) ∧ Below w.heap.size w w' := by
  have A1 := Below.nw w (.cells #[.int .i64 nx, .slice (some ⟨b, 0, none⟩) n c] 26)
  have A2 := Below.nw (w.alloc (.cells #[.int .i64 nx, .slice (some ⟨b, 0, none⟩) n c] 26)) (.cells #[.int .i64 0, .slice none 0 0] 26)
  have A3 := Below.nw ((w.alloc (.cells #[.int .i64 nx, .slice (some ⟨b, 0, none⟩) n c] 26)).alloc (.cells #[.int .i64 0, .slice none 0 0] 26)) (.cells #[.int .i64 nx, .int .i64 x1, .int .i64 x2, .string x3, .int .i64 x4] 30)
  have B := (A1.trans (A2.mono A1.size)).trans (A3.mono (A1.trans (A2.mono A1.size)).size)
  have N := ((NB.new w nx (some ⟨b, 0, none⟩) n c 26).below A2).below A3
  have R := (B2.new (w.alloc (.cells #[.int .i64 nx, .slice (some ⟨b, 0, none⟩) n c] 26)) (.int .i64 0) (.slice none 0 0) 26).below A3
  have P := F5.new ((w.alloc (.cells #[.int .i64 nx, .slice (some ⟨b, 0, none⟩) n c] 26)).alloc (.cells #[.int .i64 0, .slice none 0 0] 26)) nx x1 x2 x3 x4 30
  have CS := hf.below B hf.1
  have N0 := (NB.new w nx (some ⟨b, 0, none⟩) n c 26).below A2
  simp only [World.size_alloc] at R P
  have CO := specNetOk_any nx (some ⟨b, 0, none⟩) n c M _ hm (.inr ⟨b, 0, rfl, CS⟩) hs
  have CF := fun w' => l5Flight_any nx x1 x2 x3 x4 w' h3
  clear hf A1 A2 A3
  obtain ⟨n0, n1, n2⟩ := id N0
  go_enter Try.func28, Try.ntmps28
  go_upto_region 2 with fail
  clear n0 n1 n2 N0
  generalize ((w.alloc (.cells #[.int .i64 nx, .slice (some ⟨b, 0, none⟩) n c] 26)).alloc (.cells #[.int .i64 0, .slice none 0 0] 26)).alloc (.cells #[.int .i64 nx, .int .i64 x1, .int .i64 x2, .string x3, .int .i64 x4] 30) = v at *
  obtain ⟨n0, n1, n2⟩ := id N
  go_wp2_with fail
  refine CO.mono ?_
  rintro e v1 ⟨rfl, hb⟩
  clear n0 n1 n2 CO
  replace B := B.trans (hb.mono B.size)
  replace N := N.below hb
  replace R := R.below hb
  replace P := P.below hb
  replace CS := CS.below hb CS.1
  clear hb
  cases hn : netB nx M n
  · clear h CF
    obtain ⟨r0, r1, r2, r3, r4⟩ := id R
    go_wp2_with fail
    have PB1 := ((But.refl (w.heap.size + 1) v1).setCell 0 (.int .i64 0)).setCell 1 (.slice none 0 0)
    exact bodyPost_ret (v := .tuple #[.agg #[.int .i64 0, .slice none 0 0], .int .i64 1]) (by simp (maxDischargeDepth := 6) [results, Try.results28, go_sem, *]) rfl ⟨rfl, B.trans (PB1.below (by omega) B.size)⟩
  · have hfl : flB x1 x2 x3 x4 = false := by simpa [hn] using h
    rw [hfl] at CF
    clear h
    obtain ⟨p0, p1, p2, p3, p4, p5, p6, p7, p8, p9, p10⟩ := id P
    go_wp2_with fail
    refine (CF _).mono ?_
    rintro e v2 ⟨rfl, hb⟩
    clear p0 p1 p2 p3 p4 p5 p6 p7 p8 p9 p10 CF
    replace B := B.trans (hb.mono B.size)
    replace N := N.below hb
    replace R := R.below hb
    replace P := P.below hb
    replace CS := CS.below hb CS.1
    clear hb
    obtain ⟨r0, r1, r2, r3, r4⟩ := id R
    go_wp2_with fail
    have PB1 := ((But.refl (w.heap.size + 1) v2).setCell 0 (.int .i64 0)).setCell 1 (.slice none 0 0)
    exact bodyPost_ret (v := .tuple #[.agg #[.int .i64 0, .slice none 0 0], .int .i64 1]) (by simp (maxDischargeDepth := 6) [results, Try.results28, go_sem, *]) rfl ⟨rfl, B.trans (PB1.below (by omega) B.size)⟩
set_option maxHeartbeats 4000000 in
theorem specNetSend_full (nx x1 x2 : Int) (x3 : ByteArray) (x4 : Int) (b n c : Nat) (M : Nat → FT) (w : World) (hm : n ≤ maxLen) (hf : Cs w b 0 (n * 5) (MFFlight M)) (hs : ∀ i, i < n → ((M i).2.2.2.1).size ≤ maxLen) (h3 : x3.size ≤ maxLen) (h : netB nx M n = true) (hfl : flB x1 x2 x3 x4 = true) (hfu : n = 40 ∨ nx = 1000000) :
    Calls Try.prog 28 #[.agg #[.int .i64 nx, .slice (some ⟨b, 0, none⟩) n c], .int .i64 x1, .int .i64 x2, .string x3, .int .i64 x4] w fun e w' => ∃ a' c', e = .returned (.tuple #[.agg #[.int .i64 nx, .slice a' n c'], .int .i64 3]) ∧ w'.ownsRow w.heap.size 30 5 (.slice a' n c') n (frow M n) ∧ Below w.heap.size w w' := by
  have hn40 := netB_n h
  have A1 := Below.nw w (.cells #[.int .i64 nx, .slice (some ⟨b, 0, none⟩) n c] 26)
  have A2 := Below.nw (w.alloc (.cells #[.int .i64 nx, .slice (some ⟨b, 0, none⟩) n c] 26)) (.cells #[.int .i64 0, .slice none 0 0] 26)
  have A3 := Below.nw ((w.alloc (.cells #[.int .i64 nx, .slice (some ⟨b, 0, none⟩) n c] 26)).alloc (.cells #[.int .i64 0, .slice none 0 0] 26)) (.cells #[.int .i64 nx, .int .i64 x1, .int .i64 x2, .string x3, .int .i64 x4] 30)
  have B := (A1.trans (A2.mono A1.size)).trans (A3.mono (A1.trans (A2.mono A1.size)).size)
  have N := ((NB.new w nx (some ⟨b, 0, none⟩) n c 26).below A2).below A3
  have R := (B2.new (w.alloc (.cells #[.int .i64 nx, .slice (some ⟨b, 0, none⟩) n c] 26)) (.int .i64 0) (.slice none 0 0) 26).below A3
  have P := F5.new ((w.alloc (.cells #[.int .i64 nx, .slice (some ⟨b, 0, none⟩) n c] 26)).alloc (.cells #[.int .i64 0, .slice none 0 0] 26)) nx x1 x2 x3 x4 30
  have CS := hf.below B hf.1
  have N0 := (NB.new w nx (some ⟨b, 0, none⟩) n c 26).below A2
  simp only [World.size_alloc] at R P
  have CO := specNetOk_any nx (some ⟨b, 0, none⟩) n c M _ hm (.inr ⟨b, 0, rfl, CS⟩) hs
  have CF := fun w' => l5Flight_any nx x1 x2 x3 x4 w' h3
  clear hf A1 A2 A3
  obtain ⟨n0, n1, n2⟩ := id N0
  go_enter Try.func28, Try.ntmps28
  go_upto_region 2 with fail
  clear n0 n1 n2 N0
  generalize ((w.alloc (.cells #[.int .i64 nx, .slice (some ⟨b, 0, none⟩) n c] 26)).alloc (.cells #[.int .i64 0, .slice none 0 0] 26)).alloc (.cells #[.int .i64 nx, .int .i64 x1, .int .i64 x2, .string x3, .int .i64 x4] 30) = v at *
  obtain ⟨n0, n1, n2⟩ := id N
  go_wp2_with fail
  refine CO.mono ?_
  rintro e v1 ⟨rfl, hb⟩
  clear n0 n1 n2 CO
  replace B := B.trans (hb.mono B.size)
  replace N := N.below hb
  replace R := R.below hb
  replace P := P.below hb
  replace CS := CS.below hb CS.1
  clear hb
  rw [h]
  rw [hfl] at CF
  clear h hfl
  obtain ⟨p0, p1, p2, p3, p4, p5, p6, p7, p8, p9, p10⟩ := id P
  go_wp2_with fail
  refine (CF _).mono ?_
  rintro e v2 ⟨rfl, hb⟩
  clear p0 p1 p2 p3 p4 p5 p6 p7 p8 p9 p10 CF
  replace B := B.trans (hb.mono B.size)
  replace N := N.below hb
  replace R := R.below hb
  replace P := P.below hb
  replace CS := CS.below hb CS.1
  clear hb
  obtain ⟨n0, n1, n2⟩ := id N
  go_wp2_with fail
  refine (l5Copy_any nx b n c M _ hn40 CS).mono ?_
  rintro e v3 ⟨a2, c2, rfl, O, hb⟩
  clear n0 n1 n2
  have hz2 : w.heap.size + 1 < v2.heap.size := R.1
  have hz3 := hb.size
  replace B := B.trans (hb.mono B.size)
  replace N := N.below hb
  replace R := R.below hb
  replace P := P.below hb
  clear hb CS
  have HOL : Hid (∀ g, (Value.slice a2 n c2).ownBlock = some g → v2.heap.size ≤ g ∧ g < v3.heap.size) := fun g hg => World.ownsRow.lt O g hg
  have A4 := Below.nw v3 (.cells #[.int .i64 nx, .slice a2 n c2] 26)
  have K := B2.new v3 (.int .i64 nx) (.slice a2 n c2) 26
  replace B := B.trans (A4.mono B.size)
  replace N := N.below A4
  replace R := R.below A4
  replace P := P.below A4
  replace O := own_belowF O A4
  clear A4
  go_upto_region 5 with fail
  generalize hk3 : v3.heap.size = k3 at *
  generalize v3.alloc (.cells #[.int .i64 nx, .slice a2 n c2] 26) = v4 at *
  obtain ⟨n0, n1, n2⟩ := id N
  obtain ⟨k0, k1, k2, k4, k5⟩ := id K
  by_cases h40 : n = 40
  · subst h40
    clear hfu
    obtain ⟨r0, r1, r2, r3, r4⟩ := id R
    go_wp2_with fail
    have PB1 := ((But.refl (w.heap.size + 1) v4).setCell 0 (.int .i64 nx)).setCell 1 (.slice a2 40 c2)
    exact bodyPost_ret (v := .tuple #[.agg #[.int .i64 nx, .slice a2 40 c2], .int .i64 3]) (by simp (maxDischargeDepth := 6) [results, Try.results28, go_sem, *]) rfl ⟨a2, c2, rfl, ownB_le (own_butF O PB1 (by omega)) (by omega), B.trans (PB1.below (by omega) B.size)⟩
  · have h6 := hfu.resolve_left h40
    subst h6
    have d1 : ((n : Int) == 40) = false := by simp; omega
    have d2 : decide ((n : Int) = 40) = false := decide_eq_false (by omega)
    clear hfu
    obtain ⟨r0, r1, r2, r3, r4⟩ := id R
    go_wp2_with fail
    have PB1 := ((But.refl (w.heap.size + 1) v4).setCell 0 (.int .i64 1000000)).setCell 1 (.slice a2 n c2)
    exact bodyPost_ret (v := .tuple #[.agg #[.int .i64 1000000, .slice a2 n c2], .int .i64 3]) (by simp (maxDischargeDepth := 6) [results, Try.results28, go_sem, *]) rfl ⟨a2, c2, rfl, ownB_le (own_butF O PB1 (by omega)) (by omega), B.trans (PB1.below (by omega) B.size)⟩
set_option maxRecDepth 100000 in
set_option maxHeartbeats 4000000 in
theorem specNetSend_done (nx x1 x2 : Int) (x3 : ByteArray) (x4 : Int) (b n c : Nat) (M : Nat → FT) (w : World) (hm : n ≤ maxLen) (hf : Cs w b 0 (n * 5) (MFFlight M)) (hs : ∀ i, i < n → ((M i).2.2.2.1).size ≤ maxLen) (h3 : x3.size ≤ maxLen) (h : netB nx M n = true) (hfl : flB x1 x2 x3 x4 = true) (hfu : ¬ (n = 40 ∨ nx = 1000000)) (Y : FT) (hY : Y = (nx, x1, x2, x3, x4)) :
    Calls Try.prog 28 #[.agg #[.int .i64 nx, .slice (some ⟨b, 0, none⟩) n c], .int .i64 x1, .int .i64 x2, .string x3, .int .i64 x4] w fun e w' => ∃ a' c', e = .returned (.tuple #[.agg #[.int .i64 (nx + 1), .slice a' (n + 1) c'], .int .i64 0]) ∧ w'.ownsRow w.heap.size 30 5 (.slice a' (n + 1) c') (n + 1) (frow (insG M n Y) (n + 1)) ∧ Below w.heap.size w w' := by
  have HY : Hid (Y = (nx, x1, x2, x3, x4)) := hY
  clear hY
  obtain ⟨i0, hi, hz0, hz1, hz2'⟩ := infoF_parts
  have hn40 := netB_n h
  have hnxr := netB_rng h
  have hnx : nx < 1000000 := by have := hnxr.2; omega
  have hn4 : n < 40 := by omega
  have d1 : ((n : Int) == 40) = false := by simp; omega
  have d2 : decide ((n : Int) = 40) = false := decide_eq_false (by omega)
  have d3 : (nx == 1000000) = false := by simp; omega
  have d4 : decide (nx = 1000000) = false := decide_eq_false (by omega)
  have A1 := Below.nw w (.cells #[.int .i64 nx, .slice (some ⟨b, 0, none⟩) n c] 26)
  have A2 := Below.nw (w.alloc (.cells #[.int .i64 nx, .slice (some ⟨b, 0, none⟩) n c] 26)) (.cells #[.int .i64 0, .slice none 0 0] 26)
  have A3 := Below.nw ((w.alloc (.cells #[.int .i64 nx, .slice (some ⟨b, 0, none⟩) n c] 26)).alloc (.cells #[.int .i64 0, .slice none 0 0] 26)) (.cells #[.int .i64 nx, .int .i64 x1, .int .i64 x2, .string x3, .int .i64 x4] 30)
  have B := (A1.trans (A2.mono A1.size)).trans (A3.mono (A1.trans (A2.mono A1.size)).size)
  have N := ((NB.new w nx (some ⟨b, 0, none⟩) n c 26).below A2).below A3
  have R := (B2.new (w.alloc (.cells #[.int .i64 nx, .slice (some ⟨b, 0, none⟩) n c] 26)) (.int .i64 0) (.slice none 0 0) 26).below A3
  have P := F5.new ((w.alloc (.cells #[.int .i64 nx, .slice (some ⟨b, 0, none⟩) n c] 26)).alloc (.cells #[.int .i64 0, .slice none 0 0] 26)) nx x1 x2 x3 x4 30
  have CS := hf.below B hf.1
  have N0 := (NB.new w nx (some ⟨b, 0, none⟩) n c 26).below A2
  simp only [World.size_alloc] at R P
  have CO := specNetOk_any nx (some ⟨b, 0, none⟩) n c M _ hm (.inr ⟨b, 0, rfl, CS⟩) hs
  have CF := fun w' => l5Flight_any nx x1 x2 x3 x4 w' h3
  clear hf A1 A2 A3
  obtain ⟨n0, n1, n2⟩ := id N0
  go_enter Try.func28, Try.ntmps28
  go_upto_region 2 with fail
  clear n0 n1 n2 N0
  generalize ((w.alloc (.cells #[.int .i64 nx, .slice (some ⟨b, 0, none⟩) n c] 26)).alloc (.cells #[.int .i64 0, .slice none 0 0] 26)).alloc (.cells #[.int .i64 nx, .int .i64 x1, .int .i64 x2, .string x3, .int .i64 x4] 30) = v at *
  obtain ⟨n0, n1, n2⟩ := id N
  go_wp2_with fail
  refine CO.mono ?_
  rintro e v1 ⟨rfl, hb⟩
  clear n0 n1 n2 CO
  replace B := B.trans (hb.mono B.size)
  replace N := N.below hb
  replace R := R.below hb
  replace P := P.below hb
  replace CS := CS.below hb CS.1
  clear hb
  rw [h]
  rw [hfl] at CF
  clear h hfl hfu
  obtain ⟨p0, p1, p2, p3, p4, p5, p6, p7, p8, p9, p10⟩ := id P
  go_wp2_with fail
  refine (CF _).mono ?_
  rintro e v2 ⟨rfl, hb⟩
  clear p0 p1 p2 p3 p4 p5 p6 p7 p8 p9 p10 CF
  replace B := B.trans (hb.mono B.size)
  replace N := N.below hb
  replace R := R.below hb
  replace P := P.below hb
  replace CS := CS.below hb CS.1
  clear hb
  obtain ⟨n0, n1, n2⟩ := id N
  go_wp2_with fail
  refine (l5Copy_any nx b n c M _ hn40 CS).mono ?_
  rintro e v3 ⟨a2, c2, rfl, O, hb⟩
  clear n0 n1 n2
  have hz2 : w.heap.size + 1 < v2.heap.size := R.1
  have hz3 := hb.size
  replace B := B.trans (hb.mono B.size)
  replace N := N.below hb
  replace R := R.below hb
  replace P := P.below hb
  clear hb CS
  have HOL : Hid (∀ g, (Value.slice a2 n c2).ownBlock = some g → v2.heap.size ≤ g ∧ g < v3.heap.size) := fun g hg => World.ownsRow.lt O g hg
  have A4 := Below.nw v3 (.cells #[.int .i64 nx, .slice a2 n c2] 26)
  have K := B2.new v3 (.int .i64 nx) (.slice a2 n c2) 26
  replace B := B.trans (A4.mono B.size)
  replace N := N.below A4
  replace R := R.below A4
  replace P := P.below A4
  replace O := own_belowF O A4
  clear A4
  go_upto_region 5 with fail
  generalize hk3 : v3.heap.size = k3 at *
  generalize v3.alloc (.cells #[.int .i64 nx, .slice a2 n c2] 26) = v4 at *
  obtain ⟨n0, n1, n2⟩ := id N
  go_upto_region 7 with fail
  clear n0 n1 n2 N d1 d2 d3 d4
  have own1 := World.ownsRow.alloc O (.cells #[.int .i64 nx, .int .i64 x1, .int .i64 x2, .string x3, .int .i64 x4] 30)
  have A6 := Below.nw v4 (.cells #[.int .i64 nx, .int .i64 x1, .int .i64 x2, .string x3, .int .i64 x4] 30)
  have HN2 : Hid (∀ j u, [Value.int .i64 nx, .int .i64 x1, .int .i64 x2, .string x3, .int .i64 x4][j]? = some u → (v4.alloc (.cells #[.int .i64 nx, .int .i64 x1, .int .i64 x2, .string x3, .int .i64 x4] 30)).cell? ((⟨v4.heap.size, 0, none⟩ : Addr).add j) = some u) := fun j u hu => five_at v4 nx x1 x2 x3 x4 30 j u hu
  have hk4 : k3 < v4.heap.size := K.1
  have hs6 : v2.heap.size ≤ (v4.alloc (.cells #[.int .i64 nx, .int .i64 x1, .int .i64 x2, .string x3, .int .i64 x4] 30)).heap.size := by have := A6.size; omega
  obtain ⟨p0, p1, p2, p3, p4, p5, p6, p7, p8, p9, p10⟩ := id P
  obtain ⟨k0, k1, k2, k4, k5⟩ := id K
  go_wp2_with (at_builtin; refine wpList_append_new rfl _ _ 24 rfl (v2.heap.size) 30 i0 (.agg #[.int .i64 0, .int .i64 0, .int .i64 0, .string ⟨#[]⟩, .int .i64 0]) 5 48 Try.underlying24 hi hz0 hz1 hz2' rfl (by decide) _ _ _ rfl own1 ⟨v4.heap.size, 0, none⟩ 1 1 [.int .i64 nx, .int .i64 x1, .int .i64 x2, .string x3, .int .i64 x4] rfl rfl HN2.out (five_one _ _ _ _ _) ?c3 ?c4 ?c5 ?_)
  case c3 => unfold maxLen; omega
  case c4 => omega
  case c5 => exact hs6
  intro vq wq hown2 hgrow hfr
  have hown3 : wq.ownsRow (v2.heap.size) 30 5 vq (n + 1) (frow (insG M n Y) (n + 1)) := (by have q := hown2; rw [frow_ins1 Y HY.out] at q; exact q)
  have hne : some k3 ≠ (Value.slice a2 n c2).ownBlock := fun e => by have := (HOL.out k3 e.symm).2; omega
  have KQ := (K.below A6).keptG hgrow hne
  have RQ := (R.below A6).keptG hgrow (fun e => by have := (HOL.out _ e.symm).1; omega)
  have BQ := (B.trans (A6.mono B.size)).trans (grown_belG hgrow (B.trans (A6.mono B.size)).size (fun q h e => by have := (HOL.out q e.symm).1; omega))
  have NQ : Hid (∀ g, vq.ownBlock = some g → g ≠ k3) := fun g hg e => by rcases hfr g hg with q | q; (exact hne (by rw [q, e])); (have := A6.size; omega)
  clear k0 k1 k2 k4 k5 p0 p1 p2 p3 p4 p5 p6 p7 p8 p9 p10 hown2 hgrow hfr own1 HN2
  obtain ⟨a3, c3, rfl, _, _, _⟩ := ownF_src hown3
  obtain ⟨k0, k1, k2, k4, k5⟩ := id KQ
  go_upto_region 8 with fail
  have PK := But.one wq k3 1 (.slice a3 (n + 1) c3)
  have K2 := KQ.set1 (.slice a3 (n + 1) c3)
  have R2 := RQ.but PK (by omega)
  have O2 := own_neF hown3 PK NQ.out
  have B2' := BQ.trans (PK.below (B := w.heap.size) (by omega) BQ.size)
  clear k0 k1 k2 k4 k5 PK KQ RQ hown3 BQ K R P B O A6
  generalize wq.setCell ⟨k3, 1, none⟩ (.slice a3 (n + 1) c3) = v5 at *
  have PK := But.one v5 k3 0 (.int .i64 (nx + 1))
  have K3 := K2.set0 (.int .i64 (nx + 1))
  have R3 := R2.but PK (by omega)
  have O3 := own_neF O2 PK NQ.out
  have B3 := B2'.trans (PK.below (B := w.heap.size) (by omega) B2'.size)
  have hw1 : IntKind.i64.wrap (nx + 1) = nx + 1 := Go.IntWalk.i64_in _ ⟨by omega, by omega⟩
  obtain ⟨k0, k1, k2, k4, k5⟩ := id K2
  go_upto_region 9 with fail
  clear k0 k1 k2 k4 k5 PK K2 R2 O2 B2'
  generalize v5.setCell ⟨k3, 0, none⟩ (.int .i64 (nx + 1)) = v6 at *
  obtain ⟨k0, k1, k2, k4, k5⟩ := id K3
  obtain ⟨r0, r1, r2, r3, r4⟩ := id R3
  go_wp2_with fail
  have PB1 := ((But.refl (w.heap.size + 1) v6).setCell 0 (.int .i64 (nx + 1))).setCell 1 (.slice a3 (n + 1) c3)
  exact bodyPost_ret (v := .tuple #[.agg #[.int .i64 (nx + 1), .slice a3 (n + 1) c3], .int .i64 0]) (by simp (maxDischargeDepth := 6) [results, Try.results28, go_sem, *]) rfl ⟨a3, c3, rfl, ownB_le (own_butF O3 PB1 (by omega)) (by omega), B3.trans (PB1.below (by omega) B3.size)⟩
end Go.Proofs.Ytfdcjfebfbpliaa
