/- Numbers of texts: the digits of a number. The text of a number and the numerals of the library: the same (pure). Looks and readings, one by one. Rows of readings: what the laws make of them, and whether two are the same. Rows of readings told by lists; an append of one. The library's contracts of strconv and strings at this program. TextOf and NumOf in the program. What the listed variables give; a world in which they stand. -/
import Derived.Stop.LaidErr
import Derived.Stop.LaidTwo
import Derived.LaidLaws
import Derived.LaidSub
import Derived.LaidHandle
import Derived.OpenShut
import Derived.RowKitTokens
import Derived.Lib.LaidTab
import Derived.ChangeArms
import Derived.Test.YtddijpjgkifngaaGreatDoorM19
namespace Go.Proofs.YtddijpjgkifngaaGreatDoor
open Go.RowKit
set_option linter.unusedVariables false
def dL : Nat → Nat → List Int → List Int
 | 0, _, L => L
 | f + 1, K, L => if K = 0 then L else dL f (K / 10) ((48 + (K : Int) % 10) :: L)
theorem str_cons (a : Int) (L : List Int) : strOfNums [a] ++ strOfNums L = strOfNums (a :: L) := by
 apply ByteArray.ext
 rw [ByteArray.data_append, strOfNums, strOfNums, strOfNums]
 simp
theorem tdS_dL : ∀ (f K : Nat) (L : List Int), tdS f K (strOfNums L) = strOfNums (dL f K L)
 | 0, _, _ => rfl
 | f + 1, K, L => by
  rw [tdS, dL]
  by_cases h : K = 0
  ·rw [if_pos h, if_pos h]
  ·rw [if_neg h, if_neg h, str_cons, tdS_dL f]
theorem dgs_eq (K : Nat) : dgs K = strOfNums (dL 20 K []) := tdS_dL 20 K []
end Go.Proofs.YtddijpjgkifngaaGreatDoor
namespace Go.Proofs.YtddijpjgkifngaaGreatDoor
open Go.RowKit
set_option linter.unusedVariables false
theorem dL_dec : ∀ (f K : Nat) (L : List Int), K ≠ 0 → K < 10 ^ f → dL f K L = ((Go.Lib.decDigits K).map fun c => (c.toNat : Int)) ++ L
 | 0, K, L, hz, h => absurd (by simpa using h) hz
 | f + 1, K, L, hz, h => by
  rw [dL, if_neg hz]
  by_cases h10 : K < 10
  ·have e : K / 10 = 0 := by omega
   have e2 : dL f 0 ((48 + (K : Int) % 10) :: L) = (48 + (K : Int) % 10) :: L := by cases f <;> simp [dL]
   have e3 : ((UInt8.ofNat (48 + K)).toNat : Int) = 48 + (K : Int) % 10 := by rw [UInt8.toNat_ofNat']; omega
   rw [e, e2, Go.Lib.decDigits_one h10, List.map_cons, e3]
   rfl
  ·have e3 : ((UInt8.ofNat (48 + K % 10)).toNat : Int) = 48 + (K : Int) % 10 := by rw [UInt8.toNat_ofNat']; omega
   have e4 : Go.Lib.decDigits K = Go.Lib.decDigits (K / 10) ++ [UInt8.ofNat (48 + K % 10)] := by rw [Go.Lib.decDigits, dif_neg h10]
   rw [dL_dec f (K / 10) _ (by omega) (ten_step h), e4, List.map_append, List.append_assoc, List.map_cons, e3]
   rfl
theorem str_back (l : List UInt8) : strOfNums (l.map fun c => (c.toNat : Int)) = ⟨l.toArray⟩ := by
 apply ByteArray.ext
 rw [strOfNums, List.map_map]
 have : ((fun n : Int => UInt8.ofNat n.toNat) ∘ fun c : UInt8 => (c.toNat : Int)) = id := by
  funext c; simp
 rw [this, List.map_id]
theorem dgs_dec {K : Nat} (hz : K ≠ 0) (h : K < 10 ^ 20) : dgs K = ⟨(Go.Lib.decDigits K).toArray⟩ := by
 rw [dgs_eq, dL_dec 20 K [] hz h, List.append_nil, str_back]
theorem txI_itoa (n : Int) (h0 : -9223372036854775808 ≤ n) (h1 : n ≤ 9223372036854775807) : (⟨(Go.Lib.itoa n).toArray⟩ : ByteArray) = txI n := by
 by_cases hz : n = 0
 ·subst hz
  have e : Go.Lib.itoa 0 = [48] := by rw [Go.Lib.itoa, if_neg (by omega)]; exact Go.Lib.decDigits_one (by decide)
  rw [e]; rfl
 ·by_cases hp : 0 < n
  ·obtain ⟨K, rfl⟩ := Int.eq_ofNat_of_zero_le (show 0 ≤ n by omega)
   rw [txI_p (by omega), dgs_dec (by omega) (by omega), Go.Lib.itoa, if_neg (by omega)]
   rfl
  ·obtain ⟨K, hK⟩ := Int.eq_ofNat_of_zero_le (show 0 ≤ -n by omega)
   have hn : n = -(K : Int) := by omega
   subst hn
   rw [txI_n (by omega), dgs_dec (by omega) (by omega), Go.Lib.itoa, if_pos (by omega), Int.natAbs_neg]
   apply ByteArray.ext
   rw [ByteArray.data_append]
   simp
end Go.Proofs.YtddijpjgkifngaaGreatDoor
namespace Go.Proofs.YtddijpjgkifngaaGreatDoor
open Go.RowKit
set_option linter.unusedVariables false
abbrev RgT : Type := Int × Bool × Int
def zRg : RgT := (0, false, 0)
end Go.Proofs.YtddijpjgkifngaaGreatDoor
namespace Go.Proofs.YtddijpjgkifngaaGreatDoor
open Go.RowKit
set_option linter.unusedVariables false
def MCReading (M : RgT) : Nat → Value
 | 0 => .int .i64 M.1
 | 1 => .bool M.2.1
 | _ => .int .i64 M.2.2
def MFReading (M : Nat → RgT) (c : Nat) : Value := MCReading (M (c / 3)) (c % 3)
end Go.Proofs.YtddijpjgkifngaaGreatDoor
namespace Go.Proofs.YtddijpjgkifngaaGreatDoor
open Go.RowKit
set_option linter.unusedVariables false
def gG (L : List RgT) (i : Nat) : RgT := L.getD i zRg
def grow (L : List RgT) : List Value := (List.range (L.length * 3)).map (MFReading (gG L))
end Go.Proofs.YtddijpjgkifngaaGreatDoor
namespace Go.Proofs.YtddijpjgkifngaaGreatDoor
open Go.Shelf
def itoaA_ren : Go.Shelf.Ren := ⟨fun | 171 => 118 | 243 => 152 | 246 => 173 | 283 => 187 | 284 => 188 | 285 => 189 | 286 => 190 | 129 => 197 | 317 => 196 | 318 => 198 | 319 => 199 | 320 => 200 | 337 => 204 | 338 => 205 | n => n, fun | 3 => 3 | 9 => 9 | 2 => 2 | 4 => 4 | 171 => 249 | 0 => 0 | 53 => 250 | 37 => 132 | 5 => 5 | 173 => 253 | 212 => 261 | 51 => 262 | 20 => 20 | 213 => 263 | 46 => 264 | 232 => 270 | 233 => 271 | n => n, fun | 17 => 1 | 18 => 2 | 19 => 3 | n => n⟩
theorem itoaA : Go.Proofs.LaysM.n171 Tryz.prog itoaA_ren := {
 mixed := by kernel_rfl
 f129 := Tryz.func197.trans (congrArg some (by kernel_rfl))
 f171 := Tryz.func118.trans (congrArg some (by kernel_rfl))
 f243 := Tryz.func152.trans (congrArg some (by kernel_rfl))
 f246 := Tryz.func173.trans (congrArg some (by kernel_rfl))
 f283 := Tryz.func187.trans (congrArg some (by kernel_rfl))
 f284 := Tryz.func188.trans (congrArg some (by kernel_rfl))
 f285 := Tryz.func189.trans (congrArg some (by kernel_rfl))
 f286 := Tryz.func190.trans (congrArg some (by kernel_rfl))
 f317 := Tryz.func196.trans (congrArg some (by kernel_rfl))
 f318 := Tryz.func198.trans (congrArg some (by kernel_rfl))
 f319 := Tryz.func199.trans (congrArg some (by kernel_rfl))
 f320 := Tryz.func200.trans (congrArg some (by kernel_rfl))
 f337 := Tryz.func204.trans (congrArg some (by kernel_rfl))
 f338 := Tryz.func205.trans (congrArg some (by kernel_rfl))
 t0 := Tryz.underlying0
 a0 := Tryz.isAgg0
 z0 := Tryz.sizeOf0
 v0 := Tryz.zeroValue0
 t2 := Tryz.underlying2
 a2 := Tryz.isAgg2
 z2 := Tryz.sizeOf2
 v2 := Tryz.zeroValue2
 t3 := Tryz.underlying3
 a3 := Tryz.isAgg3
 z3 := Tryz.sizeOf3
 v3 := Tryz.zeroValue3
 t4 := Tryz.underlying4
 a4 := Tryz.isAgg4
 z4 := Tryz.sizeOf4
 v4 := Tryz.zeroValue4
 t5 := Tryz.underlying5
 a5 := Tryz.isAgg5
 z5 := Tryz.sizeOf5
 v5 := Tryz.zeroValue5
 t9 := Tryz.underlying9
 a9 := Tryz.isAgg9
 z9 := Tryz.sizeOf9
 v9 := Tryz.zeroValue9
 t20 := Tryz.underlying20
 a20 := Tryz.isAgg20
 z20 := Tryz.sizeOf20
 v20 := Tryz.zeroValue20
 t37 := Tryz.underlying132
 a37 := Tryz.isAgg132
 z37 := Tryz.sizeOf132
 v37 := Tryz.zeroValue132
 t46 := Tryz.underlying264
 a46 := Tryz.isAgg264
 z46 := Tryz.sizeOf264
 v46 := Tryz.zeroValue264
 t51 := Tryz.underlying262
 a51 := Tryz.isAgg262
 z51 := Tryz.sizeOf262
 v51 := Tryz.zeroValue262
 t53 := Tryz.underlying250
 a53 := Tryz.isAgg250
 z53 := Tryz.sizeOf250
 v53 := Tryz.zeroValue250
 t171 := Tryz.underlying249
 a171 := Tryz.isAgg249
 z171 := Tryz.sizeOf249
 v171 := Tryz.zeroValue249
 t173 := Tryz.underlying253
 a173 := Tryz.isAgg253
 z173 := Tryz.sizeOf253
 v173 := Tryz.zeroValue253
 t212 := Tryz.underlying261
 a212 := Tryz.isAgg261
 z212 := Tryz.sizeOf261
 v212 := Tryz.zeroValue261
 t213 := Tryz.underlying263
 a213 := Tryz.isAgg263
 z213 := Tryz.sizeOf263
 t232 := Tryz.underlying270
 a232 := Tryz.isAgg270
 z232 := Tryz.sizeOf270
 v232 := Tryz.zeroValue270
 t233 := Tryz.underlying271
 a233 := Tryz.isAgg271
 z233 := Tryz.sizeOf271
 v233 := Tryz.zeroValue271
 g17 := by kernel_rfl
 g18 := by kernel_rfl
 g19 := by kernel_rfl
 i0 := by kernel_rfl
 i2 := by kernel_rfl
 i3 := by kernel_rfl
 i4 := by kernel_rfl
 i5 := by kernel_rfl
 i9 := by kernel_rfl
 i20 := by kernel_rfl
 i37 := by kernel_rfl
 i46 := by kernel_rfl
 i51 := by kernel_rfl
 i53 := by kernel_rfl
 i171 := by kernel_rfl
 i173 := by kernel_rfl
 i212 := by kernel_rfl
 i232 := by kernel_rfl
 i233 := by kernel_rfl
 m17 := by kernel_rfl
 m18 := by kernel_rfl
 m19 := by kernel_rfl }
def joinA_ren : Go.Shelf.Ren := ⟨fun | 156 => 67 | 165 => 115 | 166 => 116 | 169 => 117 | 240 => 150 | 241 => 151 | 276 => 171 | 277 => 172 | n => n, fun | 31 => 96 | 9 => 9 | 3 => 3 | 4 => 4 | 0 => 0 | 20 => 20 | 72 => 182 | 76 => 186 | 70 => 180 | 37 => 132 | 75 => 185 | 127 => 221 | 164 => 238 | 5 => 5 | 80 => 142 | n => n, fun | n => n⟩
theorem joinA : Go.Proofs.Lays.n156 Tryz.prog joinA_ren := {
 mixed := by kernel_rfl
 f156 := Tryz.func67.trans (congrArg some (by kernel_rfl))
 f165 := Tryz.func115.trans (congrArg some (by kernel_rfl))
 f166 := Tryz.func116.trans (congrArg some (by kernel_rfl))
 f169 := Tryz.func117.trans (congrArg some (by kernel_rfl))
 f240 := Tryz.func150.trans (congrArg some (by kernel_rfl))
 f241 := Tryz.func151.trans (congrArg some (by kernel_rfl))
 f276 := Tryz.func171.trans (congrArg some (by kernel_rfl))
 f277 := Tryz.func172.trans (congrArg some (by kernel_rfl))
 t0 := Tryz.underlying0
 a0 := Tryz.isAgg0
 z0 := Tryz.sizeOf0
 v0 := Tryz.zeroValue0
 t3 := Tryz.underlying3
 a3 := Tryz.isAgg3
 z3 := Tryz.sizeOf3
 v3 := Tryz.zeroValue3
 t4 := Tryz.underlying4
 a4 := Tryz.isAgg4
 z4 := Tryz.sizeOf4
 v4 := Tryz.zeroValue4
 t9 := Tryz.underlying9
 a9 := Tryz.isAgg9
 z9 := Tryz.sizeOf9
 v9 := Tryz.zeroValue9
 t20 := Tryz.underlying20
 a20 := Tryz.isAgg20
 z20 := Tryz.sizeOf20
 v20 := Tryz.zeroValue20
 t31 := Tryz.underlying96
 a31 := Tryz.isAgg96
 z31 := Tryz.sizeOf96
 v31 := Tryz.zeroValue96
 t37 := Tryz.underlying132
 a37 := Tryz.isAgg132
 z37 := Tryz.sizeOf132
 v37 := Tryz.zeroValue132
 t70 := Tryz.underlying180
 a70 := Tryz.isAgg180
 z70 := Tryz.sizeOf180
 v70 := Tryz.zeroValue180
 t72 := Tryz.underlying182
 a72 := Tryz.isAgg182
 z72 := Tryz.sizeOf182
 v72 := Tryz.zeroValue182
 t75 := Tryz.underlying185
 a75 := Tryz.isAgg185
 z75 := Tryz.sizeOf185
 v75 := Tryz.zeroValue185
 t76 := Tryz.underlying186
 a76 := Tryz.isAgg186
 z76 := Tryz.sizeOf186
 v76 := Tryz.zeroValue186
 t127 := Tryz.underlying221
 a127 := Tryz.isAgg221
 z127 := Tryz.sizeOf221
 v127 := Tryz.zeroValue221
 t164 := Tryz.underlying238
 a164 := Tryz.isAgg238
 z164 := Tryz.sizeOf238
 v164 := Tryz.zeroValue238 }
theorem joinX : Builder.Extra Tryz.prog joinA_ren := {
 sizeBuilder := by kernel_rfl
 liesBuilder := by kernel_rfl
 t5 := Tryz.underlying5
 a5 := Tryz.isAgg5
 z5 := Tryz.sizeOf5
 v5 := Tryz.zeroValue5
 infoByte := by kernel_rfl
 cellsByte := by kernel_rfl
 sizeByte := by kernel_rfl
 neB5 := by decide }
end Go.Proofs.YtddijpjgkifngaaGreatDoor
namespace Go.Proofs.YtddijpjgkifngaaGreatDoor
open Go.RowKit
set_option linter.unusedVariables false
def T10 (w : World) : Prop := Go.Lib.TabBelow Tryz.prog w.heap.size w "internal/strconv.uint64pow10" .u64 Go.Lib.pow10Tab
theorem T10.below {w w' : World} (h : T10 w) (hb : Below w.heap.size w w') : T10 w' := fun u hu => h u (hb.trans (hu.mono hb.size))
def ErC (w : World) (g : Nat) : Prop := (∃ u v, w.cell? ⟨g, 0, none⟩ = some (.iface u v)) ∧ g < w.heap.size
theorem ErC.below {w w' : World} {g : Nat} (h : ErC w g) (hb : Below w.heap.size w w') : ErC w' g := by
 obtain ⟨⟨u, v, hc⟩, hg⟩ := h
 exact ⟨⟨u, v, by rw [hb.cell (p := ⟨g, 0, none⟩) hg]; exact hc⟩, Nat.lt_of_lt_of_le hg hb.size⟩
theorem below_grownX (w : World) (q : Nat) (os : Array Obj) : Below w.heap.size w (Go.Sort.grow (w.drewN q) os) :=
 ⟨rfl, rfl, rfl, by first | (simp [Go.Sort.grow]; done) | (simp [Go.Sort.grow]; omega), fun i hi => by
  show ((w.drewN q).heap ++ os)[i]? = _
  rw [Array.getElem?_append_left (by show i < w.heap.size; omega)]
  rfl⟩
theorem itoa_any (n : Int) (w : World) (h0 : -9223372036854775808 ≤ n) (h1 : n ≤ 9223372036854775807) (hT : T10 w) :
 Calls Tryz.prog 118 #[.int .i64 n] w fun e w' => e = .returned (.string (txI n)) ∧ Below w.heap.size w w' := by
 have h := Any.strconv_Itoa itoaA n h0 h1 w (hT w (Below.refl _ _))
 change Calls Tryz.prog 118 _ _ _ at h
 refine h.mono ?_
 rintro e w' ⟨rfl, k, os, rfl⟩
 exact ⟨by rw [txI_itoa n h0 h1], below_grownX w k os⟩
theorem implTextOf_any (n : Int) (w : World) (h0 : -9223372036854775808 ≤ n) (h1 : n ≤ 9223372036854775807) (hT : T10 w) :
 Calls Tryz.prog 69 #[.int .i64 n] w fun e w' => e = .returned (.string (txI n)) ∧ Below w.heap.size w w' := by
 have CI := itoa_any n w h0 h1 hT
 generalize txI n = x at *
 clear hT
 go_enter Tryz.func69, Tryz.ntmps69
 go_wp2_with fail
 refine CI.mono ?_
 rintro e w1 ⟨rfl, hb⟩
 go_wp2_with fail
 go_ret
 exact ⟨rfl, hb⟩
end Go.Proofs.YtddijpjgkifngaaGreatDoor
namespace Go.Proofs.YtddijpjgkifngaaGreatDoor
open Go.RowKit
set_option linter.unusedVariables false
theorem t10_at {W : World} {l : List (String × DataW Unit)} (h : laidMetH Tryz.prog l W) (hf : l.filter (fun x => x.1 == "internal/strconv.uint64pow10") = [("internal/strconv.uint64pow10", Rows.laid_internal_strconv_uint64pow10)]) : T10 W := by
 have h1 := h.filter (fun x => x.1 == "internal/strconv.uint64pow10")
 rw [hf] at h1
 have e0 : (Rows.laid_internal_strconv_uint64pow10 : DataW Unit) = Go.Lib.tabData .u64 Go.Lib.pow10Tab := by kernel_rfl
 have h2 : laidMet Tryz.prog [("internal/strconv.uint64pow10", (Rows.laid_internal_strconv_uint64pow10 : DataW Unit))] W := h1
 rw [e0] at h2
 exact Go.Lib.tabBelow_of_tabIs (Go.Lib.tabIs_of_head (g := 1) (t := 261) (e := 250) (n := 20) (by kernel_rfl) (by kernel_rfl) Tryz.underlying261 Tryz.underlying250 (by kernel_rfl) (by kernel_rfl) h2)
noncomputable def laidWorld (os : Os) : World :=
 let w0 := World.holding Tryz.prog os ⟨#[], #[], []⟩
 { w0 with heap := (((w0.heap.modify 2 fun | .cells _ t frozen => .cells #[.int .u8 0, .int .u8 1, .int .u8 28, .int .u8 2, .int .u8 29, .int .u8 14, .int .u8 24, .int .u8 3, .int .u8 30, .int .u8 22, .int .u8 20, .int .u8 15, .int .u8 25, .int .u8 17, .int .u8 4, .int .u8 8, .int .u8 31, .int .u8 27, .int .u8 13, .int .u8 23, .int .u8 21, .int .u8 19, .int .u8 16, .int .u8 7, .int .u8 26, .int .u8 12, .int .u8 18, .int .u8 6, .int .u8 11, .int .u8 5, .int .u8 10, .int .u8 9] t frozen | o => o).modify 3 fun | .cells _ t frozen => .cells #[.int .u8 0, .int .u8 1, .int .u8 56, .int .u8 2, .int .u8 57, .int .u8 49, .int .u8 28, .int .u8 3, .int .u8 61, .int .u8 58, .int .u8 42, .int .u8 50, .int .u8 38, .int .u8 29, .int .u8 17, .int .u8 4, .int .u8 62, .int .u8 47, .int .u8 59, .int .u8 36, .int .u8 45, .int .u8 43, .int .u8 51, .int .u8 22, .int .u8 53, .int .u8 39, .int .u8 33, .int .u8 30, .int .u8 24, .int .u8 18, .int .u8 12, .int .u8 5, .int .u8 63, .int .u8 55, .int .u8 48, .int .u8 27, .int .u8 60, .int .u8 41, .int .u8 37, .int .u8 16, .int .u8 46, .int .u8 35, .int .u8 44, .int .u8 21, .int .u8 52, .int .u8 32, .int .u8 23, .int .u8 11, .int .u8 54, .int .u8 26, .int .u8 40, .int .u8 15, .int .u8 34, .int .u8 20, .int .u8 31, .int .u8 10, .int .u8 25, .int .u8 14, .int .u8 19, .int .u8 9, .int .u8 13, .int .u8 8, .int .u8 7, .int .u8 6] t frozen | o => o).modify 1 fun | .cells _ t frozen => .cells #[.int .u64 1, .int .u64 10, .int .u64 100, .int .u64 1000, .int .u64 10000, .int .u64 100000, .int .u64 1000000, .int .u64 10000000, .int .u64 100000000, .int .u64 1000000000, .int .u64 10000000000, .int .u64 100000000000, .int .u64 1000000000000, .int .u64 10000000000000, .int .u64 100000000000000, .int .u64 1000000000000000, .int .u64 10000000000000000, .int .u64 100000000000000000, .int .u64 1000000000000000000, .int .u64 10000000000000000000] t frozen | o => o) }
end Go.Proofs.YtddijpjgkifngaaGreatDoor
