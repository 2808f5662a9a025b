/- The words of an op, its numbers (the specification). The library's contracts of strconv and strings at this program. Words joined; the line of what is told. The words of what is told, in parts (the program). Rows of texts; words joined; the words of what is under way. -/
import Derived.Test.YtddijpjgkifngaaGreatDoorM24
namespace Go.Proofs.YtddijpjgkifngaaGreatDoor
open Go.RowKit
set_option linter.unusedVariables false
theorem own_baseX {w : World} {base base' s n : Nat} {T : TypeId} {v : Value} {xs : List Value} (h : w.ownsRow base' T s v n xs) (hb : base ≤ base') : w.ownsRow base T s v n xs := by
 refine ⟨h.1, ?_⟩
 rcases h.2 with q | ⟨g, cap, cur, h1, h2, h3⟩
 ·exact .inl q
 ·exact .inr ⟨g, cap, cur, h1, Nat.le_trans hb h2, h3⟩
theorem irow_mapX (L : List Int) : irow L = L.map (Value.int .i64) := by
 apply List.ext_getElem?
 intro i
 rw [irow, Nat.mul_one]
 by_cases hi : i < L.length
 ·rw [List.getElem?_map, List.getElem?_range hi, List.getElem?_map, List.getElem?_eq_getElem hi]
  show some (Value.int .i64 (gI L i)) = some _
  rw [gI, List.getD_eq_getElem?_getD, List.getElem?_eq_getElem hi]
  rfl
 ·rw [List.getElem?_eq_none (by simp; omega), List.getElem?_eq_none (by simp; omega)]
theorem add_atX (b off n : Nat) : (⟨b, off, none⟩ : Addr).add n = ⟨b, off + n, none⟩ := by
 unfold Addr.add
 split
 ·next h => subst h; rfl
 ·rfl
theorem itg_at {w : World} {b off n : Nat} {f : Nat → Int} (h : Cs w b off n (fun j => .int .i64 (f j))) : ∀ j u, (irow ((List.range n).map f))[j]? = some u → w.cell? ((⟨b, off, none⟩ : Addr).add j) = some u := by
 intro j u hu
 rw [irow_mapX, List.map_map] at hu
 by_cases hj : j < n
 ·rw [List.getElem?_map, List.getElem?_range hj] at hu
  simp at hu
  subst hu
  rw [add_atX]
  exact h.2 j hj
 ·rw [List.getElem?_eq_none (by simp; omega)] at hu
  cases hu
def LsO (w : World) (p : Option Addr) (n c : Nat) (f : Nat → Int) : Prop := (p = none ∧ n = 0 ∧ c = 0) ∨ ∃ b off, p = some ⟨b, off, none⟩ ∧ (n = 0 ∨ Cs w b off n (fun j => .int .i64 (f j)))
theorem LsO.below {w w' : World} {p : Option Addr} {n c : Nat} {f : Nat → Int} (h : LsO w p n c f) (hb : Below w.heap.size w w') : LsO w' p n c f := by
 rcases h with h | ⟨b, off, e, h | h⟩
 ·exact .inl h
 ·exact .inr ⟨b, off, e, .inl h⟩
 ·exact .inr ⟨b, off, e, .inr (h.below hb h.1)⟩
theorem LsO.at {w : World} {p : Option Addr} {n c : Nat} {f : Nat → Int} (h : LsO w p n c f) : (p = none ∧ n = 0 ∧ c = 0) ∨ ∃ ad, p = some ad ∧ ∀ j u, (irow ((List.range n).map f))[j]? = some u → w.cell? (ad.add j) = some u := by
 rcases h with h | ⟨b, off, e, h | h⟩
 ·exact .inl h
 ·refine .inr ⟨_, e, fun j u hu => ?_⟩
  rw [h] at hu
  rw [List.getElem?_eq_none (by simp [irow])] at hu
  cases hu
 ·exact .inr ⟨_, e, itg_at h⟩
end Go.Proofs.YtddijpjgkifngaaGreatDoor
namespace Go.Proofs.YtddijpjgkifngaaGreatDoor
open Go.Shelf
def itoaA_ren : Go.Shelf.Ren := ⟨fun | 171 => 118 | 243 => 152 | 246 => 173 | 283 => 187 | 284 => 188 | 285 => 189 | 286 => 190 | 129 => 197 | 317 => 196 | 318 => 198 | 319 => 199 | 320 => 200 | 337 => 204 | 338 => 205 | n => n, fun | 3 => 3 | 9 => 9 | 2 => 2 | 4 => 4 | 171 => 249 | 0 => 0 | 53 => 250 | 37 => 132 | 5 => 5 | 173 => 253 | 212 => 261 | 51 => 262 | 20 => 20 | 213 => 263 | 46 => 264 | 232 => 270 | 233 => 271 | n => n, fun | 17 => 1 | 18 => 2 | 19 => 3 | n => n⟩
theorem itoaA : Go.Proofs.LaysM.n171 Tryz.prog itoaA_ren := {
 mixed := by kernel_rfl
 f129 := Tryz.func197.trans (congrArg some (by kernel_rfl))
 f171 := Tryz.func118.trans (congrArg some (by kernel_rfl))
 f243 := Tryz.func152.trans (congrArg some (by kernel_rfl))
 f246 := Tryz.func173.trans (congrArg some (by kernel_rfl))
 f283 := Tryz.func187.trans (congrArg some (by kernel_rfl))
 f284 := Tryz.func188.trans (congrArg some (by kernel_rfl))
 f285 := Tryz.func189.trans (congrArg some (by kernel_rfl))
 f286 := Tryz.func190.trans (congrArg some (by kernel_rfl))
 f317 := Tryz.func196.trans (congrArg some (by kernel_rfl))
 f318 := Tryz.func198.trans (congrArg some (by kernel_rfl))
 f319 := Tryz.func199.trans (congrArg some (by kernel_rfl))
 f320 := Tryz.func200.trans (congrArg some (by kernel_rfl))
 f337 := Tryz.func204.trans (congrArg some (by kernel_rfl))
 f338 := Tryz.func205.trans (congrArg some (by kernel_rfl))
 t0 := Tryz.underlying0
 a0 := Tryz.isAgg0
 z0 := Tryz.sizeOf0
 v0 := Tryz.zeroValue0
 t2 := Tryz.underlying2
 a2 := Tryz.isAgg2
 z2 := Tryz.sizeOf2
 v2 := Tryz.zeroValue2
 t3 := Tryz.underlying3
 a3 := Tryz.isAgg3
 z3 := Tryz.sizeOf3
 v3 := Tryz.zeroValue3
 t4 := Tryz.underlying4
 a4 := Tryz.isAgg4
 z4 := Tryz.sizeOf4
 v4 := Tryz.zeroValue4
 t5 := Tryz.underlying5
 a5 := Tryz.isAgg5
 z5 := Tryz.sizeOf5
 v5 := Tryz.zeroValue5
 t9 := Tryz.underlying9
 a9 := Tryz.isAgg9
 z9 := Tryz.sizeOf9
 v9 := Tryz.zeroValue9
 t20 := Tryz.underlying20
 a20 := Tryz.isAgg20
 z20 := Tryz.sizeOf20
 v20 := Tryz.zeroValue20
 t37 := Tryz.underlying132
 a37 := Tryz.isAgg132
 z37 := Tryz.sizeOf132
 v37 := Tryz.zeroValue132
 t46 := Tryz.underlying264
 a46 := Tryz.isAgg264
 z46 := Tryz.sizeOf264
 v46 := Tryz.zeroValue264
 t51 := Tryz.underlying262
 a51 := Tryz.isAgg262
 z51 := Tryz.sizeOf262
 v51 := Tryz.zeroValue262
 t53 := Tryz.underlying250
 a53 := Tryz.isAgg250
 z53 := Tryz.sizeOf250
 v53 := Tryz.zeroValue250
 t171 := Tryz.underlying249
 a171 := Tryz.isAgg249
 z171 := Tryz.sizeOf249
 v171 := Tryz.zeroValue249
 t173 := Tryz.underlying253
 a173 := Tryz.isAgg253
 z173 := Tryz.sizeOf253
 v173 := Tryz.zeroValue253
 t212 := Tryz.underlying261
 a212 := Tryz.isAgg261
 z212 := Tryz.sizeOf261
 v212 := Tryz.zeroValue261
 t213 := Tryz.underlying263
 a213 := Tryz.isAgg263
 z213 := Tryz.sizeOf263
 t232 := Tryz.underlying270
 a232 := Tryz.isAgg270
 z232 := Tryz.sizeOf270
 v232 := Tryz.zeroValue270
 t233 := Tryz.underlying271
 a233 := Tryz.isAgg271
 z233 := Tryz.sizeOf271
 v233 := Tryz.zeroValue271
 g17 := by kernel_rfl
 g18 := by kernel_rfl
 g19 := by kernel_rfl
 i0 := by kernel_rfl
 i2 := by kernel_rfl
 i3 := by kernel_rfl
 i4 := by kernel_rfl
 i5 := by kernel_rfl
 i9 := by kernel_rfl
 i20 := by kernel_rfl
 i37 := by kernel_rfl
 i46 := by kernel_rfl
 i51 := by kernel_rfl
 i53 := by kernel_rfl
 i171 := by kernel_rfl
 i173 := by kernel_rfl
 i212 := by kernel_rfl
 i232 := by kernel_rfl
 i233 := by kernel_rfl
 m17 := by kernel_rfl
 m18 := by kernel_rfl
 m19 := by kernel_rfl }
def joinA_ren : Go.Shelf.Ren := ⟨fun | 156 => 67 | 165 => 115 | 166 => 116 | 169 => 117 | 240 => 150 | 241 => 151 | 276 => 171 | 277 => 172 | n => n, fun | 31 => 96 | 9 => 9 | 3 => 3 | 4 => 4 | 0 => 0 | 20 => 20 | 72 => 182 | 76 => 186 | 70 => 180 | 37 => 132 | 75 => 185 | 127 => 221 | 164 => 238 | 5 => 5 | 80 => 142 | n => n, fun | n => n⟩
theorem joinA : Go.Proofs.Lays.n156 Tryz.prog joinA_ren := {
 mixed := by kernel_rfl
 f156 := Tryz.func67.trans (congrArg some (by kernel_rfl))
 f165 := Tryz.func115.trans (congrArg some (by kernel_rfl))
 f166 := Tryz.func116.trans (congrArg some (by kernel_rfl))
 f169 := Tryz.func117.trans (congrArg some (by kernel_rfl))
 f240 := Tryz.func150.trans (congrArg some (by kernel_rfl))
 f241 := Tryz.func151.trans (congrArg some (by kernel_rfl))
 f276 := Tryz.func171.trans (congrArg some (by kernel_rfl))
 f277 := Tryz.func172.trans (congrArg some (by kernel_rfl))
 t0 := Tryz.underlying0
 a0 := Tryz.isAgg0
 z0 := Tryz.sizeOf0
 v0 := Tryz.zeroValue0
 t3 := Tryz.underlying3
 a3 := Tryz.isAgg3
 z3 := Tryz.sizeOf3
 v3 := Tryz.zeroValue3
 t4 := Tryz.underlying4
 a4 := Tryz.isAgg4
 z4 := Tryz.sizeOf4
 v4 := Tryz.zeroValue4
 t9 := Tryz.underlying9
 a9 := Tryz.isAgg9
 z9 := Tryz.sizeOf9
 v9 := Tryz.zeroValue9
 t20 := Tryz.underlying20
 a20 := Tryz.isAgg20
 z20 := Tryz.sizeOf20
 v20 := Tryz.zeroValue20
 t31 := Tryz.underlying96
 a31 := Tryz.isAgg96
 z31 := Tryz.sizeOf96
 v31 := Tryz.zeroValue96
 t37 := Tryz.underlying132
 a37 := Tryz.isAgg132
 z37 := Tryz.sizeOf132
 v37 := Tryz.zeroValue132
 t70 := Tryz.underlying180
 a70 := Tryz.isAgg180
 z70 := Tryz.sizeOf180
 v70 := Tryz.zeroValue180
 t72 := Tryz.underlying182
 a72 := Tryz.isAgg182
 z72 := Tryz.sizeOf182
 v72 := Tryz.zeroValue182
 t75 := Tryz.underlying185
 a75 := Tryz.isAgg185
 z75 := Tryz.sizeOf185
 v75 := Tryz.zeroValue185
 t76 := Tryz.underlying186
 a76 := Tryz.isAgg186
 z76 := Tryz.sizeOf186
 v76 := Tryz.zeroValue186
 t127 := Tryz.underlying221
 a127 := Tryz.isAgg221
 z127 := Tryz.sizeOf221
 v127 := Tryz.zeroValue221
 t164 := Tryz.underlying238
 a164 := Tryz.isAgg238
 z164 := Tryz.sizeOf238
 v164 := Tryz.zeroValue238 }
theorem joinX : Builder.Extra Tryz.prog joinA_ren := {
 sizeBuilder := by kernel_rfl
 liesBuilder := by kernel_rfl
 t5 := Tryz.underlying5
 a5 := Tryz.isAgg5
 z5 := Tryz.sizeOf5
 v5 := Tryz.zeroValue5
 infoByte := by kernel_rfl
 cellsByte := by kernel_rfl
 sizeByte := by kernel_rfl
 neB5 := by decide }
end Go.Proofs.YtddijpjgkifngaaGreatDoor
namespace Go.Proofs.YtddijpjgkifngaaGreatDoor
open Go.RowKit
set_option linter.unusedVariables false
def spB : ByteArray := ⟨#[32]⟩
def jnB (L : List ByteArray) : ByteArray := ⟨(Go.Lib.join (L.map (·.data.toList)) spB.data.toList).toArray⟩
theorem jn_tail (x : ByteArray) (r : List ByteArray) : jnB (x :: r) = x ++ ⟨(Go.Lib.joinTail spB.data.toList (r.map (·.data.toList))).toArray⟩ := by
 apply ByteArray.ext
 rw [jnB, ByteArray.data_append, List.map_cons, Go.Lib.join_cons]
 simp
theorem jn5 (a b c d f : ByteArray) : jnB [a, b, c, d, f] = a ++ spB ++ b ++ spB ++ c ++ spB ++ d ++ spB ++ f := by
 rw [jn_tail]
 apply ByteArray.ext
 apply Array.ext'
 simp [Go.Lib.joinTail, ByteArray.data_append]
theorem jnd_len (z : Nat) : ∀ (L : List ByteArray), (∀ x ∈ L, x.size ≤ z) → (Go.Lib.joinTail spB.data.toList (L.map (·.data.toList))).length ≤ L.length * (z + 1)
 | [], _ => by simp [Go.Lib.joinTail]
 | x :: L, h => by
  have q := jnd_len z L (fun y hy => h y (List.mem_cons_of_mem _ hy))
  have hx := h x (List.mem_cons_self ..)
  have e : (x.data.toList).length = x.size := Array.length_toList
  have e2 : spB.data.toList.length = 1 := rfl
  unfold Go.Lib.joinTail at *
  rw [List.map_cons, List.map_cons, List.flatten_cons, List.length_append, List.length_append, e, e2, List.length_cons, Nat.add_mul]
  omega
theorem jn_le {z : Nat} {L : List ByteArray} (h : ∀ x ∈ L, x.size ≤ z) : (Go.Lib.join (L.map (·.data.toList)) spB.data.toList).length ≤ L.length * (z + 1) := by
 cases L with
 | nil => simp [Go.Lib.join_nil]
 | cons x L =>
  have q := jnd_len z L (fun y hy => h y (List.mem_cons_of_mem _ hy))
  have hx := h x (List.mem_cons_self ..)
  have e : (x.data.toList).length = x.size := Array.length_toList
  rw [List.map_cons, Go.Lib.join_cons, List.length_append, e, List.length_cons, Nat.add_mul]
  omega
def stR (L : List ByteArray) : List Value := L.map Value.string
theorem stR_len (L : List ByteArray) : (stR L).length = L.length := by simp [stR]
theorem stR_one (L : List ByteArray) : ∀ u ∈ stR L, u.oneCell' = true := by
 intro u hu
 obtain ⟨x, _, rfl⟩ := List.mem_map.1 hu
 rfl
theorem info_str : (Tryz.prog.info? 9).map (fun i => (i.zero, i.size, i.bytes)) = some (some (.string ⟨#[]⟩), 1, 16) := by kernel_rfl
theorem own_strs {w : World} {base : Nat} {v : Value} {L : List ByteArray} (h : w.ownsRow base 9 1 v L.length (stR L)) (h0 : 0 < L.length) :
 ∃ g cap, v = .slice (some ⟨g, 0, none⟩) L.length cap ∧ g < w.heap.size ∧ L.length ≤ cap ∧ ∀ (j : Nat) x, L[j]? = some x → w.cell? ⟨g, 0 + j, none⟩ = some (.string x) := by
 rcases h.2 with ⟨_, h1⟩ | ⟨g, cap, cur, rfl, h1, h2, h3, h4, h5, h6⟩
 ·omega
 ·refine ⟨g, cap, rfl, (Array.getElem?_eq_some_iff.1 h2).1, h3, fun j x hx => ?_⟩
  have hj : j < L.length := (List.getElem?_eq_some_iff.1 hx).1
  rw [Nat.zero_add, World.ownsRow.cellAt h j (by omega), stR, List.getElem?_map, hx]
  rfl
theorem strs_new (w : World) (L : List ByteArray) (hL : L.length ≤ 64) : (w.alloc (.cells (stR L).toArray 9)).ownsRow w.heap.size 9 1 (.slice (some ⟨w.heap.size, 0, none⟩) L.length L.length) L.length (stR L) := by
 refine ⟨by rw [stR_len, Nat.mul_one], .inr ⟨w.heap.size, L.length, (stR L).toArray, rfl, Nat.le_refl _, ?_, Nat.le_refl _, by unfold maxLen; omega, by simp [stR], ?_⟩⟩
 ·show (w.heap.push _)[w.heap.size]? = _
  exact Array.getElem?_push_size
 ·simp only [stR, Nat.mul_one]
  exact List.take_of_length_le (by simp)
end Go.Proofs.YtddijpjgkifngaaGreatDoor
namespace Go.Proofs.YtddijpjgkifngaaGreatDoor
open Go.RowKit
set_option linter.unusedVariables false
theorem strs_cell (w : World) (M : List ByteArray) : ∀ j u, (stR M)[j]? = some u → (w.alloc (.cells (stR M).toArray 9)).cell? ((⟨w.heap.size, 0, none⟩ : Addr).add j) = some u := by
 intro j u h
 rw [add_atX, Nat.zero_add]
 simpa using h
theorem srow_app (L M : List ByteArray) : stR (L ++ M) = stR L ++ stR M := by simp [stR]
theorem add_strs {w : World} {ops : Array Oper} {rest : List Oper} {o : Oper} {a : Act} {Q : Exit → Act → World → Prop} (hgd : o.guard = none) (s x : Operand)
 (ho : o.op = .call { callee := .builtin .append, args := #[s, x], argTypes := #[96, 96] }) (base : Nat) (L M : List ByteArray) (v : Value) (hs : a.eval s = v) (hown : w.ownsRow base 9 1 v L.length (stR L))
 (ad : Addr) (c : Nat) (hx : a.eval x = .slice (some ad) M.length c) (hM : ∀ j u, (stR M)[j]? = some u → w.cell? (ad.add j) = some u) (hL : L.length + M.length ≤ 64) (hbase : base ≤ w.heap.size)
 (h : ∀ v' w', w'.ownsRow base 9 1 v' (L ++ M).length (stR (L ++ M)) → w.grownBy w' v.ownBlock → wpList Tryz.prog ops Q rest (a.put o.dst v') w') :
 wpList Tryz.prog ops Q (o :: rest) a w := by
 obtain ⟨i0, hi, hz0, hz1, hz2⟩ := info_parts info_str
 refine wpList_append_own w hgd s x 96 ho base 9 i0 (.string ⟨#[]⟩) 1 16 Tryz.underlying96 hi hz0 hz1 hz2 rfl (by decide) v L.length (stR L) hs hown ad M.length c (stR M) hx (by rw [stR_len, Nat.mul_one]) hM (stR_one M) (by unfold maxLen; omega) (by omega) hbase ?_
 intro v' w' h1 h2 _
 exact h v' w' (by rw [srow_app, List.length_append]; exact h1) h2
theorem grown_belowS {w w' : World} {base : Nat} {v : Value} {L : List ByteArray} (h : w.ownsRow base 9 1 v L.length (stR L)) (hg : w.grownBy w' v.ownBlock) (hb : base ≤ w.heap.size) : Below base w w' :=
 Below.grown (Below.refl base w) hg hb (fun k hk => (World.ownsRow.lt h k hk).1)
end Go.Proofs.YtddijpjgkifngaaGreatDoor
namespace Go.Proofs.YtddijpjgkifngaaGreatDoor
open Go.RowKit
set_option linter.unusedVariables false
def rwL (f : Nat → ByteArray) : Nat → List ByteArray
 | 0 => []
 | k + 1 => rwL f k ++ [f k]
theorem rwL_len (f : Nat → ByteArray) : ∀ k, (rwL f k).length = k
 | 0 => rfl
 | k + 1 => by rw [rwL, List.length_append, rwL_len f k]; rfl
theorem rwL_all {f : Nat → ByteArray} {z : Nat} : ∀ {k}, (∀ i, i < k → (f i).size ≤ z) → ∀ x ∈ rwL f k, x.size ≤ z
 | 0, _, x, hx => by simp [rwL] at hx
 | k + 1, h, x, hx => by
  rw [rwL] at hx
  rcases List.mem_append.1 hx with q | q
  ·exact rwL_all (fun i hi => h i (by omega)) x q
  ·simp at q; subst q; exact h k (by omega)
theorem jn_snoc {L : List ByteArray} (x : ByteArray) (h : 0 < L.length) : jnB (L ++ [x]) = jnB L ++ spB ++ x := by
 cases L with
 | nil => exact absurd h (by simp)
 | cons a L =>
  rw [List.cons_append, jn_tail, jn_tail]
  apply ByteArray.ext
  apply Array.ext'
  simp [Go.Lib.joinTail, ByteArray.data_append]
theorem jn_size {z : Nat} {L : List ByteArray} (h : ∀ x ∈ L, x.size ≤ z) : (jnB L).size ≤ L.length * (z + 1) := by
 have q := jn_le h
 show (jnB L).data.size ≤ _
 rw [jnB]
 simpa using q
attribute [-go_sem] loadCells storeCells in
set_option maxRecDepth 100000 in
set_option maxHeartbeats 16000000 in
theorem joinedB_any (L : List ByteArray) (v : Value) (w : World) (base : Nat) (h : w.ownsRow base 9 1 v L.length (stR L)) (h0 : 0 < L.length) (hl : L.length ≤ 64) (hz : ∀ x ∈ L, x.size ≤ 130) :
 Calls Tryz.prog 34 #[v] w fun e w' => e = .returned (.string (jnB L)) ∧ Below w.heap.size w w' := by
 obtain ⟨g, cap, rfl, hg, hcap, hcells⟩ := own_strs h h0
 have hlen := jn_le hz
 have hle : (Go.Lib.join (L.map (·.data.toList)) spB.data.toList).length ≤ 140737488355328 := Nat.le_trans hlen (Nat.le_trans (Nat.mul_le_mul_right 131 hl) (by decide))
 have CJ := Any.strings_Join joinA joinX g 0 cap L spB w hcells hg (by omega) hcap hle
 change Calls Tryz.prog 67 #[.slice (some ⟨g, 0, none⟩) L.length cap, .string ⟨#[32]⟩] w (fun e w' => e = .returned (.string (jnB L)) ∧ Below w.heap.size w w') at CJ
 generalize jnB L = X at *
 clear hcells hlen hle h hz
 generalize L.length = n at *
 go_enter Tryz.func34, Tryz.ntmps34
 go_wp2_with fail
 refine CJ.mono ?_
 rintro e w1 ⟨rfl, hb⟩
 go_wp2_with fail
 go_ret
 exact ⟨rfl, hb⟩
def i64B (n : Int) : Prop := -9223372036854775808 ≤ n ∧ n ≤ 9223372036854775807
end Go.Proofs.YtddijpjgkifngaaGreatDoor
