/- Contracts of the functions of chapter 1 (intervals) in the specification and in the program, and the walks of its first exact laws. Errors of errors.New told apart by errors.Is. What the listed errors give; a world in which they stand. Fractions: their order without any bound, lowest terms. Contracts of Fold and Unfold, and the walks of their exact laws. The cursor of the draws: what l1Byte, l1Below, l1Once and l1PickInt leave. Number forms: what the bytes of a number are; rows of bytes in memory. Rows of structs in memory; the text of a mark. Contracts of the helpers of chapter 1 (told intervals, least and greatest, meet and join). Contracts of Shift and Spread. Contracts of Meet and Join. Contracts of PlusIval and LessIval. Rows of peers: what the laws make of them, and whether two are the same. Contracts of Apart and Middle. Contracts of the small functions of chapter 2 (drift) in the specification and in the program. Contracts of MsgOk. Peers that are right, ascending; the contract of impl.PeersOk. What the laws keep; rows of numbers, of intervals and of peers, told by lists. Boxes that the laws keep. FracOk in the specification. FracOf and the comparison in the specification. FracCmp in the specification. RateOfDrift in the specification. RateOf in the specification. RatesMeet in the specification. RateBroken in the specification. Comparisons of numbers, the first that tells, products of 128 bits. The common divisor and the division of the program. The comparisons of fractions by their wholes and by their rests. The contract of impl.lowest; when a fraction can be. FracOk and FracOf of the program. The comparison of fractions of the program. The chosen of two fractions. -/
import Derived.Test.YtblappilppfkiaaDoorRows
import Derived.WalkKit
import Derived.WalkSpells
import Derived.WalkLawsBesides
import Derived.LaidEql
import Derived.Stop.Asserts
import Derived.RowKitTokens
import Derived.Handy
import Derived.Deep.RegionHeld
import Derived.Stop.LaidErr
import Derived.Stop.LaidTwo
import Derived.LaidLaws
import Derived.OpenShut
import Derived.Deep.QuietTactic
import Derived.BigQuiet
import Derived.Deep.OwnRows
import Derived.Laws.BytesArg
import Derived.Deep.RegionHeld3
import Derived.Deep.DeepCutAuto
import Derived.Lib.Mul64
import Derived.Laws.Bits64b
namespace Go.Proofs.YtblappilppfkiaaDoor
open Go.RowKit
set_option linter.unusedVariables false
theorem ret_int {k : IntKind} {a b : Int} (h : a = b) : Ending.returned (.int k a) = .returned (.int k b) := by rw [h]
theorem ret_bool {a b : Bool} (h : a = b) : Ending.returned (.bool a) = .returned (.bool b) := by rw [h]
theorem bcell {W w1 : World} (hb : Below W.heap.size W w1) : (∀ b o, b < W.heap.size → w1.cell? ⟨b, o, none⟩ = W.cell? ⟨b, o, none⟩) ∧ (∀ b o, b < W.heap.size → w1.frozen? ⟨b, o, none⟩ = W.frozen? ⟨b, o, none⟩) :=
  ⟨fun b o h => hb.cell (p := ⟨b, o, none⟩) h, fun b o h => hb.frozen (p := ⟨b, o, none⟩) h⟩
def okI (lo hi : Int) : Bool := decide (lo ≤ hi ∧ -1000000000000 ≤ lo ∧ hi ≤ 1000000000000)
theorem okI_t {lo hi : Int} (h : okI lo hi = true) : lo ≤ hi ∧ -1000000000000 ≤ lo ∧ hi ≤ 1000000000000 := of_decide_eq_true h
theorem okI_f {lo hi : Int} (h : okI lo hi = false) : ¬ (lo ≤ hi ∧ -1000000000000 ≤ lo ∧ hi ≤ 1000000000000) := of_decide_eq_false h
set_option maxHeartbeats 400000 in
theorem ok_any (lo hi : Int) (w : World) :
    Calls Tryd.prog 67 #[.agg #[.int .i64 lo, .int .i64 hi]] w fun e w' => e = .returned (.bool (okI lo hi)) ∧ Below w.heap.size w w' := by
  go_enter Tryd.func67, Tryd.ntmps67
  go_wp2
  all_goals go_ret
  all_goals exact ⟨ret_bool (by rw [Bool.eq_iff_iff]; simp [okI]; try omega), by repeat (first | exact Below.refl _ _ | refine Below.drew ?_ | refine Below.alloc ?_ (by first | (simp; done) | (simp; omega) | omega) _ | refine Below.setCell ?_ (by first | (simp; done) | (simp; omega) | omega) _ | refine Below.trans ?_ (Below.mono (by assumption) (by first | (simp; done) | (simp; omega) | omega)))⟩
def wideI (lo hi : Int) : Int := if okI lo hi then hi - lo else -1
theorem wideI_t {lo hi : Int} (h : okI lo hi = true) : wideI lo hi = hi - lo := by simp [wideI, h]
theorem wideI_f {lo hi : Int} (h : okI lo hi = false) : wideI lo hi = -1 := by simp [wideI, h]
def holdsI (lo hi t : Int) : Bool := okI lo hi && decide (lo ≤ t ∧ t ≤ hi)
theorem holdsI_f {lo hi t : Int} (h : okI lo hi = false) : holdsI lo hi t = false := by simp [holdsI, h]
end Go.Proofs.YtblappilppfkiaaDoor
namespace Go.Proofs.YtblappilppfkiaaDoor
open Go.RowKit
set_option linter.unusedVariables false
/- An error of errors.New's make in a package-level variable: the variable's cell, and that the error's own row is such as two of them can be told apart. -/
def Er (w : World) (g : Nat) (a : Addr) : Prop := w.cell? ⟨g, 0, none⟩ = some (.iface 124 (.pointer (some a))) ∧ g < w.heap.size ∧ a.block < w.heap.size ∧ ∃ c t, w.heap[a.block]? = some (.cells c t (0, 0))
theorem Er.belowB {w w' : World} {g B : Nat} {a : Addr} (h : Er w g a) (hb : Below B w w') (hB : w.heap.size ≤ B) : Er w' g a := by
  obtain ⟨h1, h2, h3, c, t, h4⟩ := h
  have hs := hb.size
  exact ⟨by rw [hb.cell (p := ⟨g, 0, none⟩) (by simp; omega)]; exact h1, by omega, by omega, c, t, by rw [hb.block _ (by omega)]; exact h4⟩
theorem Er.below {w w' : World} {g : Nat} {a : Addr} (h : Er w g a) (hb : Below w.heap.size w w') : Er w' g a := h.belowB hb (Nat.le_refl _)
theorem Er.alloc {w : World} {g : Nat} {a : Addr} (h : Er w g a) (o : Obj) : Er (w.alloc o) g a := h.below ((Below.refl _ _).alloc (Nat.le_refl _) _)
theorem Er.drew {w : World} {g : Nat} {a : Addr} (h : Er w g a) : Er w.drew g a := h
theorem errComp : (Tryd.prog.info? 124).map (·.comparable) = some true := by kernel_rfl
theorem errSize : (Tryd.prog.info? 150).map (·.size) = some 1 := by kernel_rfl
theorem errType (v : Value) (w : World) : (callFunc 52 #[.iface 124 v]).run Tryd.prog w = .ok (.value (.iface 108 (.agg #[.pointer (some ⟨2, 124, none⟩)]))) w := by kernel_rfl
theorem errCan (w : World) : (callFunc 101 #[.agg #[.pointer (some ⟨2, 124, none⟩)]]).run Tryd.prog w = .ok (.value (.bool true)) w := by kernel_rfl
theorem errMeth (v : Value) (w : World) : (Go.method 163 108 v "Comparable").run Tryd.prog w = .ok (101, v) w := by kernel_rfl
theorem errNoIs (v : Value) (xT : TypeId) (w : World) : (Instr.typeAssert (.iface 124 v) xT 110 true).run Tryd.prog w = .ok (.tuple #[.nilIface, .bool false]) w := run_typeAssert_lacksB Tryd.underlying110 (by kernel_rfl) (by kernel_rfl) v xT w
theorem errNoWrap (v : Value) (xT : TypeId) (w : World) : (Instr.typeAssert (.iface 124 v) xT 113 true).run Tryd.prog w = .ok (.tuple #[.nilIface, .bool false]) w := run_typeAssert_lacksB Tryd.underlying113 (by kernel_rfl) (by kernel_rfl) v xT w
theorem errNoWraps (v : Value) (xT : TypeId) (w : World) : (Instr.typeAssert (.iface 124 v) xT 115 true).run Tryd.prog w = .ok (.tuple #[.nilIface, .bool false]) w := run_typeAssert_lacksB Tryd.underlying115 (by kernel_rfl) (by kernel_rfl) v xT w
theorem is_same (a : Addr) (w : World) : Calls Tryd.prog 27 #[.iface 124 (.pointer (some a)), .iface 124 (.pointer (some a))] w fun e w' => e = .returned (.bool true) ∧ w' = w := by
  obtain ⟨i, hi, hcmp⟩ := Option.map_eq_some_iff.1 errComp
  obtain ⟨j, hj, hjs⟩ := Option.map_eq_some_iff.1 errSize
  have tT := errType; have cT := errCan; have mR := errMeth
  have heq := run_eql_iface_ptr_same (P := Tryd.prog) w a Tryd.underlying63 Tryd.underlying124 hi hcmp hj
  go_enter Tryd.func27, Tryd.ntmps27
  go_wp2
  refine wp_loop_rounds 1 ?_
  rw [rounds_succ]
  go_wp2
  go_ret
  exact ⟨rfl, rfl⟩
theorem is_nil (b : Addr) (w : World) : Calls Tryd.prog 27 #[.nilIface, .iface 124 (.pointer (some b))] w fun e w' => e = .returned (.bool false) ∧ w' = w := by
  have hn := run_eql_iface_nil_left (P := Tryd.prog) w 124 (.pointer (some b)) Tryd.underlying63
  go_enter Tryd.func27, Tryd.ntmps27
  go_wp2
  go_ret
  exact ⟨rfl, rfl⟩
theorem is_other (a b : Addr) (w : World) (hne : a ≠ b) (ha : ∃ c t, w.heap[a.block]? = some (.cells c t (0, 0))) (hb : ∃ c t, w.heap[b.block]? = some (.cells c t (0, 0))) : Calls Tryd.prog 27 #[.iface 124 (.pointer (some a)), .iface 124 (.pointer (some b))] w fun e w' => e = .returned (.bool false) ∧ w' = w := by
  obtain ⟨ca, ta, ha⟩ := ha
  obtain ⟨cb, tb, hb⟩ := hb
  obtain ⟨i, hi, hcmp⟩ := Option.map_eq_some_iff.1 errComp
  obtain ⟨j, hj, hjs⟩ := Option.map_eq_some_iff.1 errSize
  have tT := errType; have cT := errCan; have mR := errMeth
  have nE := errNoIs
  have uE := errNoWrap
  have vE := errNoWraps
  have heq := run_eql_iface_ptr_other (P := Tryd.prog) w Tryd.underlying63 Tryd.underlying124 hi hcmp hj (by rw [hjs]; decide) hne ha hb
  go_enter Tryd.func27, Tryd.ntmps27
  go_wp2
  refine wp_loop_rounds 1 ?_
  rw [rounds_succ]
  go_wp2
  go_ret
  exact ⟨rfl, rfl⟩
end Go.Proofs.YtblappilppfkiaaDoor
namespace Go.Proofs.YtblappilppfkiaaDoor
open Go.RowKit
set_option linter.unusedVariables false
theorem g0Named : Tryd.prog.globalNamed "loop.example/g00072/impl.errNoFrac" = some 0 := by kernel_rfl
theorem g1Named : Tryd.prog.globalNamed "loop.example/g00072/impl.errApart" = some 1 := by kernel_rfl
theorem g0Type : (Tryd.prog.globals[0]?).map (·.type) = some 63 := by kernel_rfl
theorem g1Type : (Tryd.prog.globals[1]?).map (·.type) = some 63 := by kernel_rfl
theorem cellsE : Tryd.prog.cellsOf 150 = 1 := by kernel_rfl
theorem cellsS : Tryd.prog.cellsOf 9 = 1 := by kernel_rfl
theorem starE : "*" ++ "errors.errorString" = "*errors.errorString" := by decide
theorem rowE (u : TypeId) (h : Tryd.prog.typeName? 3 u = some "*errors.errorString") : u = 124 :=
  typeName_ptr_named (nm := "errors.errorString") (by rw [starE]; kernel_rfl) (by kernel_rfl) (by decide) u (by rw [starE]; exact h)
theorem er_of {W : World} {n : String} {g : Nat} {a : Addr} {s : ByteArray} {c : Array Value} {t : TypeId} (hg : Tryd.prog.globalNamed n = some g) (hv : W.var? Tryd.prog n = some #[.iface 124 (.pointer (some a))]) (hc : W.cell? a = some (.string s)) (hb : W.heap[a.block]? = some (.cells c t (0, 0))) : Er W g a := by
  have h0 : W.cell? ⟨g, 0, none⟩ = some (.iface 124 (.pointer (some a))) := by simpa using World.var?_cell hg hv 0
  exact ⟨h0, World.block_lt_of_cell? W _ h0, World.block_lt_of_cell? W _ hc, c, t, hb⟩
set_option maxRecDepth 100000 in
theorem laid_er1 {W : World} (h : laidMet Tryd.prog [("loop.example/g00072/impl.errNoFrac", Rows.laid_loop_example_g00072_impl_errNoFrac)] W) : ∃ a, Er W 0 a := by
  obtain ⟨ps, ⟨g0, t0, cs0, f0, p0, q0, hg0, ht0, hv0, hd0, _, e0⟩, hnd, hrows⟩ := h
  obtain rfl := Option.some.inj (g0Named.symm.trans hg0)
  obtain rfl := Option.some.inj (g0Type.symm.trans ht0)
  subst e0
  obtain ⟨l0⟩ := cs0
  have ok0 : ∀ u v, l0 = [.iface u v] → Value.okWide Tryd.prog W .any 0 u v := fun u v e => by
    subst e
    exact (hrows 0 0 (by simp [MemPlace.row])).2 u v (by simpa using World.var?_cell hg0 hv0 0)
  obtain ⟨a0, s0, rfl, hc0, hs0, hz0, rfl⟩ := errorString_of_trod Tryd.underlying63 rowE Tryd.underlying124 Tryd.underlying150 rfl rfl Tryd.underlying9 cellsE cellsS hd0 ok0
  obtain ⟨c0, t0, hb0⟩ := (hrows a0.block a0.off (by simp [MemPlace.row])).1
  exact ⟨a0, er_of g0Named hv0 hc0 hb0⟩
set_option maxRecDepth 100000 in
theorem laid_er2 {W : World} (h : laidMet Tryd.prog [("loop.example/g00072/impl.errNoFrac", Rows.laid_loop_example_g00072_impl_errNoFrac), ("loop.example/g00072/impl.errApart", Rows.laid_loop_example_g00072_impl_errApart)] W) : ∃ a b, a ≠ b ∧ Er W 0 a ∧ Er W 1 b := by
  obtain ⟨a0, a1, s0, s1, c0, c1, t0, t1, hv0, hv1, hc0, hs0, hz0, hc1, hs1, hz1, hne, hb0, hb1⟩ := laid_sentinels2 h g0Named g0Type g1Named g1Type Tryd.underlying63 rowE Tryd.underlying124 Tryd.underlying150 rfl rfl Tryd.underlying9 cellsE cellsS
  exact ⟨a0, a1, hne, er_of g0Named hv0 hc0 hb0, er_of g1Named hv1 hc1 hb1⟩
/- A world in which the two errors stand: for the witness. -/
abbrev noS : ByteArray := { data := #[116, 104, 105, 115, 32, 99, 97, 110, 32, 98, 101, 32, 110, 111, 32, 102, 114, 97, 99, 116, 105, 111, 110] }
abbrev apS : ByteArray := { data := #[116, 104, 101, 115, 101, 32, 114, 97, 116, 101, 115, 32, 100, 111, 32, 110, 111, 116, 32, 109, 101, 101, 116] }
noncomputable def low : Nat := (World.holding Tryd.prog default ⟨#[], #[], []⟩).heap.size
noncomputable def laidWorld (os : Os) : World :=
  let w0 := World.holding Tryd.prog os ⟨#[.cells #[.string noS] 150, .cells #[.string apS] 150], #[], []⟩
  { w0 with heap := (w0.heap.modify 0 fun
      | .cells _ t frozen => .cells #[.iface 124 (.pointer (some ⟨low, 0, none⟩))] t frozen
      | o => o).modify 1 fun
      | .cells _ t frozen => .cells #[.iface 124 (.pointer (some ⟨low + 1, 0, none⟩))] t frozen
      | o => o }
theorem laid_met1 (os : Os) (args : Array Value) : laidMet Tryd.prog [("loop.example/g00072/impl.errNoFrac", Rows.laid_loop_example_g00072_impl_errNoFrac)] ((laidWorld os).forCall (fun _ _ => 0) ⟨#[], args, []⟩).memory :=
  laidMet_of_run (ps := [.cell 0 0, .cell low 0]) 8 (by kernel_rfl) (by kernel_rfl) (by kernel_rfl)
theorem laid_met2 (os : Os) (args : Array Value) : laidMet Tryd.prog [("loop.example/g00072/impl.errNoFrac", Rows.laid_loop_example_g00072_impl_errNoFrac), ("loop.example/g00072/impl.errApart", Rows.laid_loop_example_g00072_impl_errApart)] ((laidWorld os).forCall (fun _ _ => 0) ⟨#[], args, []⟩).memory :=
  laidMet_of_run (ps := [.cell 0 0, .cell low 0, .cell 1 0, .cell (low + 1) 0]) 8 (by kernel_rfl) (by kernel_rfl) (by kernel_rfl)
theorem vars_one {H : Type} {enc : TypeId × Value → H} {W : World} {sp : Nat → Bool} {n : String} {gs : List (DataW H)} {q : List MemPlace} (h : DataW.TrodVars enc Tryd.prog W sp [n] gs q) : ∃ g, gs = [g] := by
  match gs, h with
  | g :: gs', ⟨_, _, _, _, _, q', _, _, _, _, hq, _⟩ =>
    obtain ⟨rfl, _⟩ := Go.ChangeShapes.trodVars_none hq
    exact ⟨g, rfl⟩
theorem vars_two {H : Type} {enc : TypeId × Value → H} {W : World} {sp : Nat → Bool} {n m : String} {gs : List (DataW H)} {q : List MemPlace} (h : DataW.TrodVars enc Tryd.prog W sp [n, m] gs q) : ∃ g k, gs = [g, k] := by
  match gs, h with
  | g :: gs', ⟨_, _, _, _, _, q', _, _, _, _, hq, _⟩ =>
    obtain ⟨k, rfl⟩ := vars_one hq
    exact ⟨g, k, rfl⟩
end Go.Proofs.YtblappilppfkiaaDoor
namespace Go.Proofs.YtblappilppfkiaaDoor
open Go.RowKit
set_option linter.unusedVariables false
/- The sign of a number; how two fractions stand tuu one another, without any bound. -/
def sgn (z : Int) : Int := if z < 0 then -1 else if 0 < z then 1 else 0
def cmpF (a b p q : Int) : Int := sgn (a * q - p * b)
theorem sgn_neg {z : Int} (h : z < 0) : sgn z = -1 := if_pos h
theorem sgn_pos {z : Int} (h : 0 < z) : sgn z = 1 := by rw [sgn, if_neg (by omega), if_pos h]
theorem sgn_zero {z : Int} (h : z = 0) : sgn z = 0 := by rw [sgn, if_neg (by omega), if_neg (by omega)]
theorem sgn_opp (z : Int) : sgn (-z) = -sgn z := by unfold sgn; split <;> split <;> (try split) <;> (try split) <;> omega
theorem cmp_opp (a b p q : Int) : cmpF p q a b = -cmpF a b p q := by
  rw [cmpF, cmpF, ← sgn_opp]
  congr 1
  omega
/- One step of the comparison: the whole parts, then what is left, turned round. -/
theorem cmp_parts {a b p q : Int} (hb : 0 < b) (hq : 0 < q) : a * q - p * b = (a / b - p / q) * (b * q) + ((a - a / b * b) * q - (p - p / q * q) * b) := by
  generalize a / b = x
  generalize p / q = y
  rw [Int.sub_mul, Int.sub_mul, Int.sub_mul, Int.mul_assoc x b q, Int.mul_assoc y q b, Int.mul_comm q b]
  omega
theorem left_in {a b : Int} (hb : 0 < b) : 0 ≤ a - a / b * b ∧ a - a / b * b < b := by
  have h1 := Int.emod_nonneg a (b := b) (by omega)
  have h2 := Int.emod_lt_of_pos a hb
  have h3 := Int.mul_ediv_add_emod a b
  rw [Int.mul_comm] at h3
  omega
theorem cmp_less {a b p q : Int} (hb : 0 < b) (hq : 0 < q) (h : a / b < p / q) : cmpF a b p q = -1 := by
  refine sgn_neg ?_
  rw [cmp_parts hb hq]
  obtain ⟨r0, r1⟩ := left_in (a := a) hb
  obtain ⟨s0, _⟩ := left_in (a := p) hq
  generalize a - a / b * b = r at *
  generalize p - p / q * q = s at *
  have hbq : 0 < b * q := Int.mul_pos hb hq
  have e1 : (a / b - p / q) * (b * q) ≤ -1 * (b * q) := Int.mul_le_mul_of_nonneg_right (by omega) (by omega)
  have e2 : r * q ≤ (b - 1) * q := Int.mul_le_mul_of_nonneg_right (by omega) (by omega)
  have e3 : 0 ≤ s * b := Int.mul_nonneg s0 (by omega)
  rw [Int.sub_mul] at e2
  omega
theorem cmp_more {a b p q : Int} (hb : 0 < b) (hq : 0 < q) (h : p / q < a / b) : cmpF a b p q = 1 := by
  have := cmp_less hq hb h
  rw [cmp_opp a b p q] at this
  omega
theorem cmp_same {a b p q : Int} (hb : 0 < b) (hq : 0 < q) (h : a / b = p / q) : cmpF a b p q = sgn ((a - a / b * b) * q - (p - p / q * q) * b) := by
  rw [cmpF, cmp_parts hb hq, h, Int.sub_self, Int.zero_mul, Int.zero_add]
theorem cmp_turn (q s b r : Int) : sgn (r * q - s * b) = cmpF q s b r := by
  rw [cmpF]
  congr 1
  rw [Int.mul_comm r q, Int.mul_comm s b]
/- The greatest common divisor by remainders that may be below 0. -/
theorem gcd_step (a b : Int) : Int.gcd b (a.tmod b) = Int.gcd a b := by
  rw [Int.gcd, Int.gcd, Int.natAbs_tmod, Nat.gcd_comm, ← Nat.gcd_rec, Nat.gcd_comm]
theorem gcd_end (a : Int) : (Int.gcd a 0 : Int) = if a < 0 then -a else a := by
  rw [Int.gcd_zero_right]
  split <;> omega
theorem gcd_less {a b : Int} (hb : b ≠ 0) : (a.tmod b).natAbs < b.natAbs := by
  rw [Int.natAbs_tmod]
  exact Nat.mod_lt _ (by omega)
theorem gcd_pos {a b : Int} (hb : b ≠ 0) : 0 < (Int.gcd a b : Int) := by
  have := Int.gcd_pos_of_ne_zero_right a hb
  omega
/- A fraction in lowest terms: what FracOf comes tuu. -/
def foG (x y : Int) : Int := if y < 0 then -(Int.gcd x y : Int) else (Int.gcd x y : Int)
def foN (x y : Int) : Int := x.tdiv (foG x y)
def foD (x y : Int) : Int := y.tdiv (foG x y)
theorem foG_ne {x y : Int} (hy : y ≠ 0) : foG x y ≠ 0 := by
  have := gcd_pos (a := x) hy
  unfold foG
  split <;> omega
theorem fo_exact {x y : Int} : foN x y * foG x y = x ∧ foD x y * foG x y = y := by
  have h1 : foG x y ∣ x := by
    unfold foG
    split
    · exact Int.neg_dvd.2 (Int.gcd_dvd_left ..)
    · exact Int.gcd_dvd_left ..
  have h2 : foG x y ∣ y := by
    unfold foG
    split
    · exact Int.neg_dvd.2 (Int.gcd_dvd_right ..)
    · exact Int.gcd_dvd_right ..
  exact ⟨Int.tdiv_mul_cancel h1, Int.tdiv_mul_cancel h2⟩
theorem fo_pos {x y : Int} (hy : y ≠ 0) : 0 < foD x y := by
  have h := (fo_exact (x := x) (y := y)).2
  have hg := gcd_pos (a := x) hy
  unfold foG at h
  by_cases hn : y < 0
  · rw [if_pos hn] at h
    refine Int.lt_of_not_ge fun hc => ?_
    have := Int.mul_nonneg_of_nonpos_of_nonpos hc (show -(Int.gcd x y : Int) ≤ 0 by omega)
    omega
  · rw [if_neg hn] at h
    refine Int.lt_of_not_ge fun hc => ?_
    have := Int.mul_nonneg (show 0 ≤ -foD x y by omega) (show 0 ≤ (Int.gcd x y : Int) by omega)
    rw [Int.neg_mul] at this
    omega
theorem fo_low {x y : Int} (hy : y ≠ 0) : Int.gcd (foN x y) (foD x y) = 1 := by
  obtain ⟨h1, h2⟩ := fo_exact (x := x) (y := y)
  have hg : 0 < Int.gcd x y := Int.gcd_pos_of_ne_zero_right x hy
  have e : Int.gcd (foN x y * foG x y) (foD x y * foG x y) = Int.gcd (foN x y) (foD x y) * (foG x y).natAbs := Int.gcd_mul_right ..
  rw [h1, h2] at e
  have eg : (foG x y).natAbs = Int.gcd x y := by unfold foG; split <;> simp
  rw [eg] at e
  exact Nat.eq_of_mul_eq_mul_right hg (by rw [Nat.one_mul]; exact e.symm)
theorem dn_scale {x n g : Int} (hg : 0 < g) : (x * g) / (n * g) = x / n := Int.mul_ediv_mul_of_pos_left x n hg
theorem cmp_le {a b p q : Int} : cmpF a b p q ≤ 0 ↔ a * q ≤ p * b := by unfold cmpF sgn; split <;> (try split) <;> omega
theorem cmp_ge {a b p q : Int} : 0 ≤ cmpF a b p q ↔ p * b ≤ a * q := by unfold cmpF sgn; split <;> (try split) <;> omega
theorem cmp_trans {x y t c u v : Int} (hy : 0 < y) (hc : 0 < c) (hv : 0 < v) (h1 : cmpF x y t c ≤ 0) (h2 : cmpF t c u v ≤ 0) : cmpF x y u v ≤ 0 := by
  rw [cmp_le] at h1 h2 ⊢
  have a1 := Int.mul_le_mul_of_nonneg_right h1 (show 0 ≤ v by omega)
  have a2 := Int.mul_le_mul_of_nonneg_right h2 (show 0 ≤ y by omega)
  have e : t * y * v = t * v * y := by rw [Int.mul_assoc, Int.mul_comm y v, ← Int.mul_assoc]
  have e1 : x * c * v = x * v * c := by rw [Int.mul_assoc, Int.mul_comm c v, ← Int.mul_assoc]
  have e2 : u * c * y = u * y * c := by rw [Int.mul_assoc, Int.mul_comm c y, ← Int.mul_assoc]
  exact Int.le_of_mul_le_mul_right (show x * v * c ≤ u * y * c by omega) hc
theorem cmp_scale {a b p q g : Int} (hg : 0 < g) : cmpF (a * g) (b * g) p q = cmpF a b p q := by
  have e : a * g * q - p * (b * g) = (a * q - p * b) * g := by
    rw [Int.sub_mul, Int.mul_assoc a g q, Int.mul_comm g q, ← Int.mul_assoc a q g, ← Int.mul_assoc p b g]
  rw [cmpF, cmpF, e]
  generalize a * q - p * b = z
  rcases Int.lt_trichotomy z 0 with h | h | h
  · rw [sgn_neg h, sgn_neg (Int.mul_neg_of_neg_of_pos h hg)]
  · rw [h, Int.zero_mul]
  · rw [sgn_pos h, sgn_pos (Int.mul_pos h hg)]
theorem foG_pos {x y : Int} (hy : 0 < y) : 0 < foG x y := by
  have := gcd_pos (a := x) (b := y) (by omega)
  rw [foG, if_neg (by omega)]
  exact this
/- A fraction in lowest terms stands where it stood. -/
theorem cmp_fo {x y p q : Int} (hy : 0 < y) : cmpF (foN x y) (foD x y) p q = cmpF x y p q := by
  obtain ⟨h1, h2⟩ := fo_exact (x := x) (y := y)
  rw [← cmp_scale (foG_pos hy), h1, h2]
theorem cmp_fo' {x y p q : Int} (hy : 0 < y) : cmpF p q (foN x y) (foD x y) = cmpF p q x y := by
  rw [cmp_opp, cmp_fo hy, ← cmp_opp]
end Go.Proofs.YtblappilppfkiaaDoor
namespace Go.Proofs.YtblappilppfkiaaDoor
open Go.RowKit
set_option linter.unusedVariables false
set_option maxHeartbeats 400000 in
theorem l1In_any (x l h : Int) (w : World) :
    Calls Tryd.prog 32 #[.int .i64 x, .int .i64 l, .int .i64 h] w fun e w' => e = .returned (.bool (decide (l ≤ x ∧ x ≤ h))) ∧ w = w' := by
  go_enter Tryd.func32, Tryd.ntmps32
  go_wp2
  all_goals go_ret
  all_goals exact ⟨ret_bool (by rw [Bool.eq_iff_iff]; simp; try omega), rfl⟩
def foldI (x : Int) : Int := if -1000000000000 ≤ x ∧ x ≤ 1000000000000 then (if x < 0 then -2 * x - 1 else 2 * x) else 0
def unfJ (x : Int) : Int := if x % 2 = 1 then -(x / 2) - 1 else x / 2
def unfI (x : Int) : Int := if 0 ≤ x ∧ x ≤ 2000000000000 then unfJ x else 0
end Go.Proofs.YtblappilppfkiaaDoor
namespace Go.Proofs.YtblappilppfkiaaDoor
open Go.RowKit
set_option linter.unusedVariables false
theorem and_mask (a : Int) (m : Nat) (hm : m < 4611686018427387904) : 0 ≤ bits .and .i64 a (m : Int) ∧ bits .and .i64 a (m : Int) ≤ (m : Int) := by
  have e : bits .and .i64 a (m : Int) = IntKind.i64.wrap ((BitVec.ofInt 64 a &&& BitVec.ofInt 64 (m : Int)).toNat : Int) := rfl
  have h1 : (BitVec.ofInt 64 a &&& BitVec.ofInt 64 (m : Int)).toNat ≤ m := by
    rw [BitVec.toNat_and, BitVec.ofInt_natCast, BitVec.toNat_ofNat, Nat.mod_eq_of_lt (show m < 2 ^ 64 by omega)]
    exact Nat.and_le_right
  rw [e, Go.IntWalk.i64_in _ ⟨by omega, by omega⟩]
  omega
theorem and255 (a : Int) : 0 ≤ bits .and .i64 a 255 ∧ bits .and .i64 a 255 ≤ 255 := and_mask a 255 (by omega)
theorem emod_le' (x n : Int) (hx : 0 ≤ x) (hn : 0 < n) : x % n ≤ x := by
  have h1 : 0 ≤ x / n := Int.ediv_nonneg hx (by omega)
  have h2 : 0 ≤ n * (x / n) := Int.mul_nonneg (by omega) h1
  have h3 := Int.emod_add_mul_ediv x n
  omega
def But (p : Nat) (w w' : World) : Prop := w'.os = w.os ∧ w'.tape = w.tape ∧ w'.output = w.output ∧ w.heap.size ≤ w'.heap.size ∧ ∀ k, k < w.heap.size → k ≠ p → w'.heap[k]? = w.heap[k]?
theorem But.refl (p : Nat) (w : World) : But p w w := ⟨rfl, rfl, rfl, Nat.le_refl _, fun _ _ _ => rfl⟩
theorem But.trans {p : Nat} {a b c : World} (h : But p a b) (k : But p b c) : But p a c :=
  ⟨k.1.trans h.1, k.2.1.trans h.2.1, k.2.2.1.trans h.2.2.1, Nat.le_trans h.2.2.2.1 k.2.2.2.1, fun i hi hp => (k.2.2.2.2 i (Nat.lt_of_lt_of_le hi h.2.2.2.1) hp).trans (h.2.2.2.2 i hi hp)⟩
theorem But.of_below {p : Nat} {w w' : World} (h : Below w.heap.size w w') : But p w w' := ⟨h.os, h.tape, h.output, h.size, fun k hk _ => h.block k hk⟩
theorem But.drewN {p : Nat} {a w : World} (h : But p a w) (n : Nat) : But p a (w.drewN n) := h
theorem But.setCell {p : Nat} {a w : World} (h : But p a w) (o : Nat) (u : Value) : But p a (w.setCell ⟨p, o, none⟩ u) :=
  ⟨h.1, h.2.1, h.2.2.1, by rw [World.size_setCell]; exact h.2.2.2.1, fun k hk hp => (Below.heap_setCell w ⟨p, o, none⟩ u k hp).trans (h.2.2.2.2 k hk hp)⟩
theorem But.below {p B : Nat} {w w' : World} (h : But p w w') (hB : B ≤ p) (hs : B ≤ w.heap.size) : Below B w w' := ⟨h.1, h.2.1, h.2.2.1, h.2.2.2.1, fun k hk => h.2.2.2.2 k (by omega) (by omega)⟩
theorem But.cell {p k o : Nat} {w w' : World} (h : But p w w') (hk : k < w.heap.size) (hp : k ≠ p) : w'.cell? ⟨k, o, none⟩ = w.cell? ⟨k, o, none⟩ := World.cell?_of_block (w := w) (h.2.2.2.2 k hk hp)
theorem But.frozen {p k o : Nat} {w w' : World} (h : But p w w') (hk : k < w.heap.size) (hp : k ≠ p) : w'.frozen? ⟨k, o, none⟩ = w.frozen? ⟨k, o, none⟩ := World.frozen?_of_block (w := w) (h.2.2.2.2 k hk hp)
def CodeB (w : World) (B : Nat) (a : Option Addr) (n : Nat) : Prop := n = 0 ∨ ∃ b off, a = some ⟨b, off, none⟩ ∧ b < B ∧ ∀ i, i < n → ∃ z : Int, w.cell? ⟨b, off + i, none⟩ = some (.int .u8 z) ∧ 0 ≤ z ∧ z ≤ 255
theorem CodeB.below {w w' : World} {B : Nat} {a : Option Addr} {n : Nat} (h : CodeB w B a n) (hb : Below B w w') : CodeB w' B a n := by
  rcases h with h | ⟨b, off, h1, h2, h3⟩
  · exact .inl h
  · exact .inr ⟨b, off, h1, h2, fun i hi => by
      obtain ⟨z, e, hz⟩ := h3 i hi
      exact ⟨z, by rw [hb.cell (p := ⟨b, off + i, none⟩) h2]; exact e, hz⟩⟩
/- A cursor over the bytes of a draw: where it lies, and that it is one. -/
def CurAt (w : World) (B p : Nat) (a : Option Addr) (n c i : Nat) (h : Int) : Prop :=
  w.cell? ⟨p, 0, none⟩ = some (.slice a n c) ∧ w.cell? ⟨p, 1, none⟩ = some (.int .i64 i) ∧ w.cell? ⟨p, 2, none⟩ = some (.int .i64 h) ∧
  w.frozen? ⟨p, 0, none⟩ = false ∧ w.frozen? ⟨p, 1, none⟩ = false ∧ w.frozen? ⟨p, 2, none⟩ = false ∧ i ≤ n ∧ n ≤ 1048576 ∧ CodeB w B a n ∧ B ≤ p ∧ p < w.heap.size
def CurOk (w : World) (B p : Nat) : Prop := ∃ a n c i h, CurAt w B p a n c i h
theorem CurOk.lt {w : World} {B p : Nat} (h : CurOk w B p) : p < w.heap.size ∧ B ≤ p := by
  obtain ⟨a, n, c, i, hh, h⟩ := h
  exact ⟨h.2.2.2.2.2.2.2.2.2.2, h.2.2.2.2.2.2.2.2.2.1⟩
theorem CurOk.below {w w' : World} {B p : Nat} (h : CurOk w B p) (hb : Below w.heap.size w w') : CurOk w' B p := by
  obtain ⟨a, n, c, i, hh, h0, h1, h2, f0, f1, f2, hi, hn, hc, hB, hp⟩ := h
  refine ⟨a, n, c, i, hh, ?_, ?_, ?_, ?_, ?_, ?_, hi, hn, hc.below (hb.mono (by omega)), hB, Nat.lt_of_lt_of_le hp hb.size⟩
  · rw [hb.cell (p := ⟨p, 0, none⟩) hp]; exact h0
  · rw [hb.cell (p := ⟨p, 1, none⟩) hp]; exact h1
  · rw [hb.cell (p := ⟨p, 2, none⟩) hp]; exact h2
  · rw [hb.frozen (p := ⟨p, 0, none⟩) hp]; exact f0
  · rw [hb.frozen (p := ⟨p, 1, none⟩) hp]; exact f1
  · rw [hb.frozen (p := ⟨p, 2, none⟩) hp]; exact f2
theorem CurAt.set2 {w : World} {B p : Nat} {a : Option Addr} {n c i : Nat} {h : Int} (hc : CurAt w B p a n c i h) (k : Int) : CurAt (w.setCell ⟨p, 2, none⟩ (.int .i64 k)) B p a n c i k := by
  obtain ⟨h0, h1, h2, f0, f1, f2, hi, hn, hcode, hB, hp⟩ := hc
  refine ⟨?_, ?_, ?_, by simpa using f0, by simpa using f1, by simpa using f2, hi, hn, hcode.below ((Below.refl _ _).setCell hB _), hB, by simpa using hp⟩
  · rw [World.cell?_setCell_other _ _ _ _ (by simp)]; exact h0
  · rw [World.cell?_setCell_other _ _ _ _ (by simp)]; exact h1
  · exact World.cell?_setCell_same _ _ _ h2
theorem CurAt.set1 {w : World} {B p : Nat} {a : Option Addr} {n c i : Nat} {h : Int} (hc : CurAt w B p a n c i h) (k : Nat) (hk : k ≤ n) : CurAt (w.setCell ⟨p, 1, none⟩ (.int .i64 k)) B p a n c k h := by
  obtain ⟨h0, h1, h2, f0, f1, f2, hi, hn, hcode, hB, hp⟩ := hc
  refine ⟨?_, ?_, ?_, by simpa using f0, by simpa using f1, by simpa using f2, hk, hn, hcode.below ((Below.refl _ _).setCell hB _), hB, by simpa using hp⟩
  · rw [World.cell?_setCell_other _ _ _ _ (by simp)]; exact h0
  · exact World.cell?_setCell_same _ _ _ h1
  · rw [World.cell?_setCell_other _ _ _ _ (by simp)]; exact h2
theorem CurAt.drewN {w : World} {B p : Nat} {a : Option Addr} {n c i : Nat} {h : Int} (hc : CurAt w B p a n c i h) (m : Nat) : CurAt (w.drewN m) B p a n c i h := hc
set_option maxHeartbeats 1000000 in
theorem l1Byte_any (B p : Nat) (w : World) (hcur : CurOk w B p) :
    Calls Tryd.prog 49 #[.pointer (some ⟨p, 0, none⟩)] w fun e w' => ∃ x : Int, e = .returned (.int .i64 x) ∧ 0 ≤ x ∧ x ≤ 255 ∧ CurOk w' B p ∧ But p w w' := by
  obtain ⟨a, n, c, i, h, hat⟩ := hcur
  have HAT : Hid (CurAt w B p a n c i h) := hat
  obtain ⟨c0, c1, c2, f0, f1, f2, hi, hn, hcode, hB, hp⟩ := hat
  by_cases hin : i < n
  · rcases hcode with h0 | ⟨b, off, rfl, hb, hz⟩
    · omega
    · obtain ⟨z, hz, z0, z1⟩ := hz i hin
      have hii : (i : Int) < (n : Int) := by omega
      have hbp : b ≠ p := by omega
      go_enter Tryd.func49, Tryd.ntmps49
      go_wp2_with fail
      go_quiet (fail)
      go_wp2_with fail
      go_quiet (fail)
      go_wp2_with fail
      go_quiet (fail)
      go_wp2_with fail
      go_ret
      exact ⟨_, rfl, (and255 _).1, (and255 _).2, ⟨_, _, _, i + 1, _, ((HAT.out.set2 _).drewN _).set1 (i + 1) (by omega)⟩, (((But.refl p w).setCell 2 _).drewN _).setCell 1 _⟩
  · have hii : ¬ (i : Int) < (n : Int) := by omega
    go_enter Tryd.func49, Tryd.ntmps49
    go_wp2_with fail
    go_quiet (fail)
    go_wp2_with fail
    go_quiet (fail)
    go_wp2_with fail
    go_ret
    exact ⟨_, rfl, (and255 _).1, (and255 _).2, ⟨_, _, _, i, _, ((HAT.out.set2 _).drewN _).drewN _⟩, (((But.refl p w).setCell 2 _).drewN _).drewN _⟩
set_option maxHeartbeats 1000000 in
theorem l1Below_any (B p : Nat) (n : Int) (w : World) (hcur : CurOk w B p) :
    Calls Tryd.prog 23 #[.pointer (some ⟨p, 0, none⟩), .int .i64 n] w fun e w' => ∃ x : Int, e = .returned (.int .i64 x) ∧ 0 ≤ x ∧ x ≤ 4294967295 ∧ (0 < n → x < n) ∧ (n ≤ 0 → x = 0) ∧ CurOk w' B p ∧ But p w w' := by
  by_cases h0 : n ≤ 0
  · go_enter Tryd.func23, Tryd.ntmps23
    go_wp2_with fail
    go_ret
    exact ⟨0, rfl, by omega, by omega, fun h => by omega, fun _ => rfl, hcur, But.refl p w⟩
  · have hne : (n == 0) = false := by rw [beq_eq_false_iff_ne]; omega
    have hpos : 0 < n := by omega
    by_cases h1 : n ≤ 256
    · go_enter Tryd.func23, Tryd.ntmps23
      go_wp2_with fail
      refine (l1Byte_any B p _ hcur).mono ?_; rintro e w1 ⟨x, rfl, xl, xh, w1c, w1b⟩
      go_wp2_with fail
      go_ret
      have hm := Int.emod_lt_of_pos x hpos
      have hm0 := Int.emod_nonneg x (b := n) (by omega)
      exact ⟨x % n, rfl, hm0, by omega, fun _ => hm, fun h => by omega, w1c, w1b⟩
    · go_enter Tryd.func23, Tryd.ntmps23
      go_wp2_with fail
      refine (l1Byte_any B p _ hcur).mono ?_; rintro e w1 ⟨x, rfl, xl, xh, w1c, w1b⟩
      go_wp2_with fail
      refine (l1Byte_any B p _ w1c).mono ?_; rintro e w2 ⟨y, rfl, yl, yh, w2c, w2b⟩
      go_wp2_with fail
      refine (l1Byte_any B p _ w2c).mono ?_; rintro e w3 ⟨z, rfl, zl, zh, w3c, w3b⟩
      go_wp2_with fail
      refine (l1Byte_any B p _ w3c).mono ?_; rintro e w4 ⟨u, rfl, ul, uh, w4c, w4b⟩
      go_wp2_with fail
      go_ret
      have hm := Int.emod_lt_of_pos (x * 16777216 + y * 65536 + z * 256 + u) hpos
      have hm0 := Int.emod_nonneg (x * 16777216 + y * 65536 + z * 256 + u) (b := n) (by omega)
      have hle := emod_le' (x * 16777216 + y * 65536 + z * 256 + u) n (by omega) hpos
      exact ⟨(x * 16777216 + y * 65536 + z * 256 + u) % n, rfl, hm0, by omega, fun _ => hm, fun h => by omega, w4c, ((w1b.trans w2b).trans w3b).trans w4b⟩
set_option maxHeartbeats 400000 in
theorem l1Once_any (B p : Nat) (n : Int) (w : World) (hcur : CurOk w B p) :
    Calls Tryd.prog 24 #[.pointer (some ⟨p, 0, none⟩), .int .i64 n] w fun e w' => ∃ x : Bool, e = .returned (.bool x) ∧ CurOk w' B p ∧ But p w w' := by
  go_enter Tryd.func24, Tryd.ntmps24
  go_wp2_with fail
  refine (l1Below_any B p n _ hcur).mono ?_
  rintro e w1 ⟨x, rfl, h0, h1, h2, h3, hc, hb⟩
  clear h2 h3
  go_wp2_with fail
  go_ret
  exact ⟨_, rfl, hc, hb⟩
set_option maxHeartbeats 400000 in
theorem l1PickInt_any (B p b off m c : Nat) (w : World) (hcur : CurOk w B p) (hm : 0 < m) (hm2 : m ≤ 100) (hb : b < w.heap.size) (hbp : b ≠ p) (hl : ∀ j, j < m → ∃ v : Int, w.cell? ⟨b, off + j, none⟩ = some (.int .i64 v)) :
    Calls Tryd.prog 25 #[.pointer (some ⟨p, 0, none⟩), .slice (some ⟨b, off, none⟩) m c] w fun e w' => ∃ j : Nat, ∃ v : Int, j < m ∧ w.cell? ⟨b, off + j, none⟩ = some (.int .i64 v) ∧ e = .returned (.int .i64 v) ∧ CurOk w' B p ∧ But p w w' := by
  have HL : Hid (∀ j, j < m → ∃ v : Int, w.cell? ⟨b, off + j, none⟩ = some (.int .i64 v)) := hl
  clear hl
  go_enter Tryd.func25, Tryd.ntmps25
  go_wp2_with fail
  refine (l1Below_any B p m _ hcur).mono ?_
  rintro e w1 ⟨x, rfl, h0, h1, h2, h3, hc, hw⟩
  have hx := h2 (by omega)
  obtain ⟨j, rfl⟩ := Int.eq_ofNat_of_zero_le h0
  have hj : j < m := by omega
  obtain ⟨v, hv⟩ := HL.out j hj
  have HV : Hid (w.cell? ⟨b, off + j, none⟩ = some (.int .i64 v)) := hv
  have hv1 : w1.cell? ⟨b, off + j, none⟩ = some (.int .i64 v) := by rw [hw.cell hb hbp]; exact hv
  clear h2 h3 hv
  go_wp2_with fail
  go_ret
  exact ⟨j, v, hj, HV.out, rfl, hc, hw⟩
end Go.Proofs.YtblappilppfkiaaDoor
namespace Go.Proofs.YtblappilppfkiaaDoor
open Go.RowKit
set_option linter.unusedVariables false
theorem or_i64 (a b : Nat) (ha : a < 9223372036854775808) (hb : b < 9223372036854775808) : bits .or .i64 (a : Int) (b : Int) = ((a ||| b : Nat) : Int) := by
  have e : bits .or .i64 (a : Int) (b : Int) = IntKind.i64.wrap ((BitVec.ofInt 64 (a : Int) ||| BitVec.ofInt 64 (b : Int)).toNat : Int) := rfl
  have h1 : (BitVec.ofInt 64 (a : Int) ||| BitVec.ofInt 64 (b : Int)).toNat = a ||| b := by
    rw [BitVec.toNat_or, BitVec.ofInt_natCast, BitVec.ofInt_natCast, BitVec.toNat_ofNat, BitVec.toNat_ofNat, Nat.mod_eq_of_lt (show a < 2 ^ 64 by omega), Nat.mod_eq_of_lt (show b < 2 ^ 64 by omega)]
  have h2 : a ||| b < 2 ^ 63 := Nat.or_lt_two_pow (by omega) (by omega)
  rw [e, h1, Go.IntWalk.i64_in _ ⟨by omega, by omega⟩]
theorem and127 (a : Nat) (ha : a < 9223372036854775808) : bits .and .i64 (a : Int) 127 = ((a % 128 : Nat) : Int) := by
  have e : bits .and .i64 (a : Int) 127 = IntKind.i64.wrap ((BitVec.ofInt 64 (a : Int) &&& BitVec.ofInt 64 127).toNat : Int) := rfl
  have h1 : (BitVec.ofInt 64 (a : Int) &&& BitVec.ofInt 64 127).toNat = a % 128 := by
    rw [BitVec.toNat_and, BitVec.ofInt_natCast, BitVec.toNat_ofNat, Nat.mod_eq_of_lt (show a < 2 ^ 64 by omega)]
    exact Nat.and_two_pow_sub_one_eq_mod a 7
  rw [e, h1, Go.IntWalk.i64_in _ ⟨by omega, by omega⟩]
theorem and127I (a : Int) (h0 : 0 ≤ a) (h1 : a ≤ 9223372036854775807) : bits .and .i64 a 127 = a % 128 := by
  obtain ⟨n, rfl⟩ := Int.eq_ofNat_of_zero_le h0
  rw [and127 n (by omega)]; omega
theorem or_join (a z k : Nat) (ha : a < 2 ^ k) (h : z * 2 ^ k + a < 9223372036854775808) : bits .or .i64 (a : Int) ((z * 2 ^ k : Nat) : Int) = ((a + z * 2 ^ k : Nat) : Int) := by
  rw [or_i64 a (z * 2 ^ k) (by omega) (by omega), Nat.or_comm, Nat.mul_comm z, ← Nat.two_pow_add_eq_or_of_lt ha, Nat.add_comm]
theorem or128 (a : Int) (h0 : 0 ≤ a) (h1 : a ≤ 127) : bits .or .i64 a 128 = a + 128 := by
  obtain ⟨n, rfl⟩ := Int.eq_ofNat_of_zero_le h0
  have := or_join n 1 7 (by omega) (by omega)
  simpa using this
theorem mask127 {c : Int} (h₀ : 0 ≤ c) (h₁ : c ≤ 255) : bits .and .u8 c 127 = c % 128 := bits_mask .u8 8 (by decide) wraps_u8 7 (by decide) c h₀ (by omega)
def putN : Nat → Int → List Int
  | 0, _ => []
  | k + 1, x => if 127 < x then (x % 128 + 128) :: putN k (x / 128) else [x]
def putL (x : Int) : List Int := if x < 0 then [] else putN 10 x
theorem putN_go {k : Nat} {x : Int} (h : 127 < x) : putN (k + 1) x = (x % 128 + 128) :: putN k (x / 128) := by rw [putN, if_pos h]
theorem putN_end {k : Nat} {x : Int} (h : ¬ 127 < x) : putN (k + 1) x = [x] := by rw [putN, if_neg h]
theorem putN_len : ∀ (k : Nat) (x : Int), (putN k x).length ≤ k
  | 0, _ => by simp [putN]
  | k + 1, x => by
    unfold putN
    split
    · have := putN_len k (x / 128); simp; omega
    · simp
theorem putN_rng : ∀ (k : Nat) (x : Int), 0 ≤ x → ∀ z ∈ putN k x, 0 ≤ z ∧ z ≤ 255
  | 0, _, _, z, hz => by simp [putN] at hz
  | k + 1, x, hx, z, hz => by
    unfold putN at hz
    split at hz
    · simp at hz
      rcases hz with rfl | hz
      · omega
      · exact putN_rng k (x / 128) (by omega) z hz
    · simp at hz; subst hz; omega
theorem putL_len (x : Int) : (putL x).length ≤ 10 := by unfold putL; split; simp; exact putN_len _ _
theorem putL_rng (x : Int) : ∀ z ∈ putL x, 0 ≤ z ∧ z ≤ 255 := by
  unfold putL
  split
  · intro z hz; simp at hz
  · exact putN_rng 10 x (by omega)
theorem div_pow {y : Int} {m : Nat} (h : y < 128 ^ (m + 1)) : y / 128 < 128 ^ m := by
  rw [Int.pow_succ] at h
  exact Int.ediv_lt_of_lt_mul (by omega) h
theorem infoByte : (Tryd.prog.info? 5).map (fun i => (i.zero, i.size, i.bytes)) = some (some (.int .u8 0), 1, 1) := by kernel_rfl
def bts (L : List Int) : List Value := L.map (Value.int .u8)
theorem bts_add (L : List Int) (z : Int) : bts (L ++ [z]) = bts L ++ [.int .u8 z] := by simp [bts]
theorem bts_len (L : List Int) : (bts L).length = L.length := by simp [bts]
theorem byte_at (w : World) (z : Int) (T : TypeId) (j : Nat) (u : Value) (h : [Value.int .u8 z][j]? = some u) : (w.alloc (.cells #[.int .u8 z] T)).cell? ((⟨w.heap.size, 0, none⟩ : Addr).add j) = some u := by
  match j, h with
  | 0, h => simp at h; subst h; simp [Addr.add]
def Byts (w : World) (b off n : Nat) (f : Nat → Int) : Prop := b < w.heap.size ∧ ∀ i, i < n → w.cell? ⟨b, off + i, none⟩ = some (.int .u8 (f i))
theorem Byts.below {w w' : World} {B b off n : Nat} {f : Nat → Int} (h : Byts w b off n f) (hb : Below B w w') (hB : b < B) : Byts w' b off n f :=
  ⟨Nat.lt_of_lt_of_le h.1 hb.size, fun i hi => by rw [hb.cell (p := ⟨b, off + i, none⟩) hB]; exact h.2 i hi⟩
def SrcB (w : World) (a : Option Addr) (n : Nat) (f : Nat → Int) : Prop := n = 0 ∨ ∃ b off, a = some ⟨b, off, none⟩ ∧ Byts w b off n f
theorem SrcB.below {w w' : World} {a : Option Addr} {n : Nat} {f : Nat → Int} (h : SrcB w a n f) (hb : Below w.heap.size w w') : SrcB w' a n f := by
  rcases h with h | ⟨b, off, h1, h2⟩
  · exact .inl h
  · exact .inr ⟨b, off, h1, h2.below hb h2.1⟩
theorem ownB_below {w w' : World} {base : Nat} {e : TypeId} {size : Nat} {v : Value} {n : Nat} {xs : List Value} (h : w.ownsRow base e size v n xs) (hb : Below w.heap.size w w') : w'.ownsRow base e size v n xs :=
  h.kept (row := none) ⟨hb.os, hb.tape, hb.output, hb.size, fun k hk _ => hb.block k hk⟩ (by
    cases hv : v.ownBlock with
    | none => exact .inl rfl
    | some g => exact .inr (by simp))
theorem grownB_below {w w' : World} {base : Nat} {e : TypeId} {size : Nat} {v : Value} {n : Nat} {xs : List Value} (h : w.ownsRow base e size v n xs) (hg : w.grownBy w' v.ownBlock) (hb : base ≤ w.heap.size) : Below base w w' :=
  ⟨hg.os, hg.tape, hg.output, hg.size, fun k hk => hg.block k (by omega) (fun he => by have := (h.lt k he.symm).1; omega)⟩
theorem ownB_src {w : World} {base : Nat} {T : TypeId} {v : Value} {L : List Int} (h : w.ownsRow base T 1 v L.length (bts L)) :
    ∃ a c, v = .slice a L.length c ∧ L.length ≤ c ∧ c ≤ maxLen ∧ SrcB w a L.length (fun i => L.getD i 0) := by
  rcases h.2 with ⟨rfl, h0⟩ | ⟨g, cap, cur, rfl, hb, hg, hc, hm, hs, ht⟩
  · exact ⟨none, 0, by rw [h0], by omega, by simp [maxLen], .inl h0⟩
  · refine ⟨_, cap, rfl, hc, hm, .inr ⟨g, 0, rfl, (Array.getElem?_eq_some_iff.1 hg).1, fun i hi => ?_⟩⟩
    have hu : (bts L)[i]? = some (.int .u8 (L.getD i 0)) := by simp [bts, hi]
    rw [← ht, List.getElem?_take, if_pos (by omega)] at hu
    simp [World.cell?, hg]
    simpa using hu
end Go.Proofs.YtblappilppfkiaaDoor
namespace Go.Proofs.YtblappilppfkiaaDoor
open Go.RowKit
set_option linter.unusedVariables false
theorem Below.nw (w : World) (o : Obj) : Below w.heap.size w (w.alloc o) := (Below.refl _ _).alloc (Nat.le_refl _) _
/- Cells in memory one behind the other, told by a function of the index. -/
def Cs (w : World) (b off N : Nat) (F : Nat → Value) : Prop := b < w.heap.size ∧ ∀ j, j < N → w.cell? ⟨b, off + j, none⟩ = some (F j)
theorem Cs.below {w w' : World} {B b off N : Nat} {F : Nat → Value} (h : Cs w b off N F) (hb : Below B w w') (hB : b < B) : Cs w' b off N F :=
  ⟨Nat.lt_of_lt_of_le h.1 hb.size, fun j hj => by rw [hb.cell (p := ⟨b, off + j, none⟩) hB]; exact h.2 j hj⟩
theorem Cs.drew {w : World} {b off N : Nat} {F : Nat → Value} (h : Cs w b off N F) : Cs w.drew b off N F := h
theorem Cs.but {w w' : World} {p b off N : Nat} {F : Nat → Value} (h : Cs w b off N F) (hb : But p w w') (hp : b ≠ p) : Cs w' b off N F :=
  ⟨Nat.lt_of_lt_of_le h.1 hb.2.2.2.1, fun j hj => by rw [hb.cell h.1 hp]; exact h.2 j hj⟩
def SrcC (w : World) (a : Option Addr) (N : Nat) (F : Nat → Value) : Prop := N = 0 ∨ ∃ b off, a = some ⟨b, off, none⟩ ∧ Cs w b off N F
theorem SrcC.below {w w' : World} {a : Option Addr} {N : Nat} {F : Nat → Value} (h : SrcC w a N F) (hb : Below w.heap.size w w') : SrcC w' a N F := by
  rcases h with h | ⟨b, off, h1, h2⟩
  · exact .inl h
  · exact .inr ⟨b, off, h1, h2.below hb h2.1⟩
/- A row of N cells in a block, the first m of which are F's. -/
def RowF (w : World) (b : Nat) (T : TypeId) (N m : Nat) (F : Nat → Value) : Prop := ∃ g, w.rowIs b T N g ∧ ∀ j, j < m → g j = F j
theorem RowF.lt {w : World} {b N m : Nat} {T : TypeId} {F : Nat → Value} (h : RowF w b T N m F) : b < w.heap.size := by obtain ⟨g, hr, _⟩ := h; exact hr.lt
theorem RowF.below {w w' : World} {B b N m : Nat} {T : TypeId} {F : Nat → Value} (hb : Below B w w') (hB : b < B) (h : RowF w b T N m F) : RowF w' b T N m F := by
  obtain ⟨g, hr, hg⟩ := h
  exact ⟨g, hr.of_block (hb.block b hB), hg⟩
theorem RowF.below' {w w' : World} {b N m : Nat} {T : TypeId} {F : Nat → Value} (hb : Below w.heap.size w w') (h : RowF w b T N m F) : RowF w' b T N m F := RowF.below hb h.lt h
theorem RowF.zero {w : World} {b N m : Nat} {T : TypeId} {F : Nat → Value} (h : RowF w b T N m F) (G : Nat → Value) : RowF w b T N 0 G := by
  obtain ⟨g, hr, hg⟩ := h
  exact ⟨g, hr, fun j hj => absurd hj (Nat.not_lt_zero _)⟩
theorem RowF.facts {w : World} {b N m : Nat} {T : TypeId} {F : Nat → Value} (h : RowF w b T N m F) (j : Nat) (hj : j < N) : (∃ v, w.cell? ⟨b, j, none⟩ = some v) ∧ w.frozen? ⟨b, j, none⟩ = false := by
  obtain ⟨g, hr, hg⟩ := h
  exact ⟨⟨_, hr.cell hj⟩, hr.frozen _⟩
theorem RowF.put {w : World} {b N m : Nat} {T : TypeId} {F : Nat → Value} (h : RowF w b T N m F) (m' : Nat) (hm : m' = m + 1) {v : Value} (hv : F m = v) : RowF (w.setCell ⟨b, m, none⟩ v) b T N m' F := by
  obtain ⟨g, hr, hg⟩ := h
  refine ⟨_, hr.set _ _, fun j hj => ?_⟩
  by_cases e : j = m
  · subst e; simp only [if_true]; exact hv.symm
  · simp only [if_neg e]; exact hg j (by omega)
theorem RowF.setO {w : World} {b N m : Nat} {T : TypeId} {F : Nat → Value} (h : RowF w b T N m F) {k : Nat} (hk : k ≠ b) (o : Nat) (u : Value) : RowF (w.setCell ⟨k, o, none⟩ u) b T N m F := by
  obtain ⟨g, hr, hg⟩ := h
  exact ⟨g, hr.setOther (fun e => hk e.symm) u, hg⟩
theorem RowF.cs {w : World} {b N m : Nat} {T : TypeId} {F : Nat → Value} (h : RowF w b T N m F) (hm : m ≤ N) : Cs w b 0 m F := by
  obtain ⟨g, hr, hg⟩ := h
  exact ⟨hr.lt, fun j hj => by rw [Nat.zero_add, hr.cell (by omega), hg j hj]⟩
theorem RowF.eqm {w : World} {b N m m' : Nat} {T : TypeId} {F : Nat → Value} (h : RowF w b T N m F) (e : m = m') : RowF w b T N m' F := e ▸ h
theorem ownF_row {w : World} {base : Nat} {T : TypeId} {s g n cap : Nat} {xs : List Value} (F : Nat → Value) (h : w.ownsRow base T s (.slice (some ⟨g, 0, none⟩) n cap) n xs) : base ≤ g ∧ n ≤ cap ∧ cap ≤ maxLen ∧ RowF w g T (cap * s) 0 F := by
  rcases h.2 with ⟨h, _⟩ | ⟨g', cap', cur, he, h2, h3, h4, h5, h6, h7⟩
  · simp at h
  · simp at he
    obtain ⟨rfl, rfl⟩ := he
    exact ⟨h2, h4, h5, _, ⟨cur, h3, by omega, fun i hi => by rw [Array.getElem?_eq_getElem (by omega)]; exact congrArg some (by rw [Array.getD_eq_getD_getElem?, Array.getElem?_eq_getElem (by omega)]; rfl : cur[i]'(by omega) = cur.getD i undef)⟩, fun j hj => absurd hj (Nat.not_lt_zero _)⟩
theorem ownF_src {w : World} {base : Nat} {T : TypeId} {s n : Nat} {v : Value} {F : Nat → Value} (h : w.ownsRow base T s v n ((List.range (n * s)).map F)) :
    ∃ a c, v = .slice a n c ∧ n ≤ c ∧ c ≤ maxLen ∧ SrcC w a (n * s) F := by
  rcases h.2 with ⟨rfl, h0⟩ | ⟨g, cap, cur, rfl, hb, hg, hc, hm, hs, ht⟩
  · exact ⟨none, 0, by rw [h0], by omega, by simp [maxLen], .inl (by rw [h0, Nat.zero_mul])⟩
  · refine ⟨_, cap, rfl, hc, hm, .inr ⟨g, 0, rfl, (Array.getElem?_eq_some_iff.1 hg).1, fun i hi => ?_⟩⟩
    have hu : ((List.range (n * s)).map F)[i]? = some (F i) := by simp [hi]
    rw [← ht, List.getElem?_take, if_pos (by omega)] at hu
    simp [World.cell?, hg]
    simpa using hu
theorem mapF_add (F : Nat → Value) (n s : Nat) : (List.range ((n + 1) * s)).map F = (List.range (n * s)).map F ++ (List.range s).map fun j => F (n * s + j) := by
  rw [Nat.succ_mul, List.range_add, List.map_append, List.map_map]
  rfl
def digS (K : Nat) (s : ByteArray) : ByteArray := if h : K = 0 then s else digS (K / 10) (strOfNums [48 + (K : Int) % 10] ++ s)
termination_by K
decreasing_by omega
def txt (k : Int) : ByteArray := strOfNums [109] ++ digS k.toNat ⟨#[]⟩
theorem digS_go {K : Nat} {s : ByteArray} (h : K ≠ 0) : digS K s = digS (K / 10) (strOfNums [48 + (K : Int) % 10] ++ s) := by rw [digS, dif_neg h]
theorem digS_end {s : ByteArray} : digS 0 s = s := by rw [digS, dif_pos rfl]
end Go.Proofs.YtblappilppfkiaaDoor
namespace Go.Proofs.YtblappilppfkiaaDoor
open Go.RowKit
set_option linter.unusedVariables false
def sel (b : Bool) (x : Int) : Int := match b with | true => x | false => 0
theorem sel_t {b : Bool} (h : b = true) (x : Int) : sel b x = x := by rw [h]; rfl
theorem sel_f {b : Bool} (h : b = false) (x : Int) : sel b x = 0 := by rw [h]; rfl
set_option maxHeartbeats 400000 in
theorem told_any (lo hi : Int) (w : World) :
    Calls Tryd.prog 46 #[.agg #[.int .i64 lo, .int .i64 hi]] w fun e w' => e = .returned (.tuple #[.agg #[.int .i64 (sel (okI lo hi) lo), .int .i64 (sel (okI lo hi) hi)], .bool (okI lo hi)]) ∧ Below w.heap.size w w' := by
  cases h : okI lo hi
  · rw [sel_f rfl, sel_f rfl]
    go_enter Tryd.func46, Tryd.ntmps46
    go_wp2_with (first | (go_at_call 67; refine (ok_any _ _ _).mono ?_; rintro e w' ⟨rfl, hb⟩; obtain ⟨hc, hf⟩ := bcell hb; have hz := hb.size; (try simp only [World.size_alloc] at hz); (try (have hz0 : w.heap.size < w'.heap.size := by omega)); (try (have hz1 : w.heap.size + 1 < w'.heap.size := by omega)); (try (have hz2 : w.heap.size + 1 + 1 < w'.heap.size := by omega)); (try (have hz3 : w.heap.size + 1 + 1 + 1 < w'.heap.size := by omega))))
    exact bodyPost_ret (v := .tuple #[.agg #[.int .i64 0, .int .i64 0], .bool false]) (by simp (maxDischargeDepth := 6) [results, Tryd.results46, go_sem, *]) rfl ⟨rfl, by repeat (first | exact Below.refl _ _ | refine Below.drew ?_ | refine Below.alloc ?_ (by first | (simp; done) | (simp; omega) | omega) _ | refine Below.setCell ?_ (by first | (simp; done) | (simp; omega) | omega) _ | refine Below.trans ?_ (Below.mono (by assumption) (by first | (simp; done) | (simp; omega) | omega)))⟩
  · rw [sel_t rfl, sel_t rfl]
    go_enter Tryd.func46, Tryd.ntmps46
    go_wp2_with (first | (go_at_call 67; refine (ok_any _ _ _).mono ?_; rintro e w' ⟨rfl, hb⟩; obtain ⟨hc, hf⟩ := bcell hb; have hz := hb.size; (try simp only [World.size_alloc] at hz); (try (have hz0 : w.heap.size < w'.heap.size := by omega)); (try (have hz1 : w.heap.size + 1 < w'.heap.size := by omega)); (try (have hz2 : w.heap.size + 1 + 1 < w'.heap.size := by omega)); (try (have hz3 : w.heap.size + 1 + 1 + 1 < w'.heap.size := by omega))))
    exact bodyPost_ret (v := .tuple #[.agg #[.int .i64 lo, .int .i64 hi], .bool true]) (by simp (maxDischargeDepth := 6) [results, Tryd.results46, go_sem, *]) rfl ⟨rfl, by repeat (first | exact Below.refl _ _ | refine Below.drew ?_ | refine Below.alloc ?_ (by first | (simp; done) | (simp; omega) | omega) _ | refine Below.setCell ?_ (by first | (simp; done) | (simp; omega) | omega) _ | refine Below.trans ?_ (Below.mono (by assumption) (by first | (simp; done) | (simp; omega) | omega)))⟩
def imn (x y : Int) : Int := if y < x then y else x
def imx (x y : Int) : Int := if y < x then x else y
theorem imn_l {x y : Int} (h : y < x) : imn x y = y := by simp [imn, h]
theorem imn_g {x y : Int} (h : ¬ y < x) : imn x y = x := by simp [imn, h]
theorem imx_l {x y : Int} (h : y < x) : imx x y = x := by simp [imx, h]
theorem imx_g {x y : Int} (h : ¬ y < x) : imx x y = y := by simp [imx, h]
theorem imn_comm (x y : Int) : imn x y = imn y x := by unfold imn; split <;> split <;> omega
theorem imx_comm (x y : Int) : imx x y = imx y x := by unfold imx; split <;> split <;> omega
set_option maxHeartbeats 400000 in
theorem ranked_any (x y : Int) (w : World) :
    Calls Tryd.prog 62 #[.int .i64 x, .int .i64 y] w fun e w' => e = .returned (.tuple #[.int .i64 (imn x y), .int .i64 (imx x y)]) ∧ w = w' := by
  by_cases h : y < x
  · rw [imn_l h, imx_l h]
    go_enter Tryd.func62, Tryd.ntmps62
    go_wp2
    go_ret2
    exact ⟨rfl, rfl⟩
  · rw [imn_g h, imx_g h]
    go_enter Tryd.func62, Tryd.ntmps62
    go_wp2
    go_ret2
    exact ⟨rfl, rfl⟩
set_option maxHeartbeats 400000 in
theorem l1Max_any (x y : Int) (w : World) :
    Calls Tryd.prog 78 #[.int .i64 x, .int .i64 y] w fun e w' => e = .returned (.int .i64 (imx x y)) ∧ w = w' := by
  go_enter Tryd.func78, Tryd.ntmps78
  go_wp2
  all_goals go_ret
  all_goals exact ⟨ret_int (by first | rw [imx_l (by omega)] | rw [imx_g (by omega)]), rfl⟩
set_option maxHeartbeats 400000 in
theorem l1Min_any (x y : Int) (w : World) :
    Calls Tryd.prog 77 #[.int .i64 x, .int .i64 y] w fun e w' => e = .returned (.int .i64 (imn x y)) ∧ w = w' := by
  go_enter Tryd.func77, Tryd.ntmps77
  go_wp2
  all_goals go_ret
  all_goals exact ⟨ret_int (by unfold imn; split <;> omega), rfl⟩
def okII (al ah bl bh : Int) : Bool := okI al ah && okI bl bh
theorem okII_t {al ah bl bh : Int} (h : okII al ah bl bh = true) : okI al ah = true ∧ okI bl bh = true := by simpa [okII] using h
set_option maxHeartbeats 400000 in
theorem bothOk_any (al ah bl bh : Int) (w : World) :
    Calls Tryd.prog 61 #[.agg #[.int .i64 al, .int .i64 ah], .agg #[.int .i64 bl, .int .i64 bh]] w fun e w' => e = .returned (.bool (okII al ah bl bh)) ∧ Below w.heap.size w w' := by
  cases h : okI al ah
  · go_enter Tryd.func61, Tryd.ntmps61
    go_wp2_with (first | (go_at_call 67; refine (ok_any _ _ _).mono ?_; rintro e w' ⟨rfl, hb⟩; obtain ⟨hc, hf⟩ := bcell hb; have hz := hb.size; (try simp only [World.size_alloc] at hz); (try (have hz0 : w.heap.size < w'.heap.size := by omega)); (try (have hz1 : w.heap.size + 1 < w'.heap.size := by omega)); (try (have hz2 : w.heap.size + 1 + 1 < w'.heap.size := by omega)); (try (have hz3 : w.heap.size + 1 + 1 + 1 < w'.heap.size := by omega))))
    go_ret
    exact ⟨ret_bool (by simp [okII, h]), by repeat (first | exact Below.refl _ _ | refine Below.drew ?_ | refine Below.alloc ?_ (by first | (simp; done) | (simp; omega) | omega) _ | refine Below.setCell ?_ (by first | (simp; done) | (simp; omega) | omega) _ | refine Below.trans ?_ (Below.mono (by assumption) (by first | (simp; done) | (simp; omega) | omega)))⟩
  · go_enter Tryd.func61, Tryd.ntmps61
    go_wp2_with (first | (go_at_call 67; refine (ok_any _ _ _).mono ?_; rintro e w' ⟨rfl, hb⟩; obtain ⟨hc, hf⟩ := bcell hb; have hz := hb.size; (try simp only [World.size_alloc] at hz); (try (have hz0 : w.heap.size < w'.heap.size := by omega)); (try (have hz1 : w.heap.size + 1 < w'.heap.size := by omega)); (try (have hz2 : w.heap.size + 1 + 1 < w'.heap.size := by omega)); (try (have hz3 : w.heap.size + 1 + 1 + 1 < w'.heap.size := by omega))))
    go_ret
    exact ⟨ret_bool (by simp [okII, h]), by repeat (first | exact Below.refl _ _ | refine Below.drew ?_ | refine Below.alloc ?_ (by first | (simp; done) | (simp; omega) | omega) _ | refine Below.setCell ?_ (by first | (simp; done) | (simp; omega) | omega) _ | refine Below.trans ?_ (Below.mono (by assumption) (by first | (simp; done) | (simp; omega) | omega)))⟩
def shiftB (lo hi b : Int) : Bool := okI lo hi && decide (-2000000000000 ≤ b ∧ b ≤ 2000000000000) && okI (lo + b) (hi + b)
def spreadB (lo hi l g : Int) : Bool := okI lo hi && decide (0 ≤ l ∧ l ≤ 2000000000000 ∧ 0 ≤ g ∧ g ≤ 2000000000000) && okI (lo - l) (hi + g)
def meetB (al ah bl bh : Int) : Bool := okII al ah bl bh && okI (imx al bl) (imn ah bh)
def joinB (al ah bl bh : Int) : Bool := okII al ah bl bh
def plusB (al ah bl bh : Int) : Bool := okII al ah bl bh && okI (al + bl) (ah + bh)
def lessB (al ah bl bh : Int) : Bool := okII al ah bl bh && okI (al - bh) (ah - bl)
theorem join_ok {al ah bl bh : Int} (h : okII al ah bl bh = true) : okI (imn al bl) (imx ah bh) = true := by
  have ⟨h1, h2⟩ := okII_t h
  have ⟨a1, a2, a3⟩ := okI_t h1
  have ⟨b1, b2, b3⟩ := okI_t h2
  have : imn al bl ≤ imx ah bh ∧ -1000000000000 ≤ imn al bl ∧ imx ah bh ≤ 1000000000000 := by unfold imn imx; split <;> split <;> omega
  exact decide_eq_true this
end Go.Proofs.YtblappilppfkiaaDoor
namespace Go.Proofs.YtblappilppfkiaaDoor
open Go.RowKit
set_option linter.unusedVariables false
end Go.Proofs.YtblappilppfkiaaDoor
namespace Go.Proofs.YtblappilppfkiaaDoor
open Go.RowKit
set_option linter.unusedVariables false
end Go.Proofs.YtblappilppfkiaaDoor
namespace Go.Proofs.YtblappilppfkiaaDoor
open Go.RowKit
set_option linter.unusedVariables false
end Go.Proofs.YtblappilppfkiaaDoor
namespace Go.Proofs.YtblappilppfkiaaDoor
open Go.RowKit
set_option linter.unusedVariables false
def Bx5 (w : World) (k : Nat) (u0 u1 u2 u3 u4 : Value) : Prop := k < w.heap.size ∧ w.cell? ⟨k, 0, none⟩ = some u0 ∧ w.cell? ⟨k, 1, none⟩ = some u1 ∧ w.cell? ⟨k, 2, none⟩ = some u2 ∧ w.cell? ⟨k, 3, none⟩ = some u3 ∧ w.cell? ⟨k, 4, none⟩ = some u4 ∧ w.frozen? ⟨k, 0, none⟩ = false ∧ w.frozen? ⟨k, 1, none⟩ = false ∧ w.frozen? ⟨k, 2, none⟩ = false ∧ w.frozen? ⟨k, 3, none⟩ = false ∧ w.frozen? ⟨k, 4, none⟩ = false
theorem Bx5.belowB {k B : Nat} {w w' : World} {u0 u1 u2 u3 u4 : Value} (h : Bx5 w k u0 u1 u2 u3 u4) (hw : Below B w w') (hk : k < B) : Bx5 w' k u0 u1 u2 u3 u4 := by
  obtain ⟨h0, h1, h2, h3, h4, h5, f1, f2, f3, f4, f5⟩ := h
  exact ⟨Nat.lt_of_lt_of_le h0 hw.size, by rw [hw.cell (p := ⟨k, 0, none⟩) hk]; exact h1, by rw [hw.cell (p := ⟨k, 1, none⟩) hk]; exact h2, by rw [hw.cell (p := ⟨k, 2, none⟩) hk]; exact h3, by rw [hw.cell (p := ⟨k, 3, none⟩) hk]; exact h4, by rw [hw.cell (p := ⟨k, 4, none⟩) hk]; exact h5, by rw [hw.frozen (p := ⟨k, 0, none⟩) hk]; exact f1, by rw [hw.frozen (p := ⟨k, 1, none⟩) hk]; exact f2, by rw [hw.frozen (p := ⟨k, 2, none⟩) hk]; exact f3, by rw [hw.frozen (p := ⟨k, 3, none⟩) hk]; exact f4, by rw [hw.frozen (p := ⟨k, 4, none⟩) hk]; exact f5⟩
theorem Bx5.below {k : Nat} {w w' : World} {u0 u1 u2 u3 u4 : Value} (h : Bx5 w k u0 u1 u2 u3 u4) (hw : Below w.heap.size w w') : Bx5 w' k u0 u1 u2 u3 u4 := h.belowB hw h.1
theorem Bx5.but {w w' : World} {k q : Nat} {u0 u1 u2 u3 u4 : Value} (h : Bx5 w k u0 u1 u2 u3 u4) (hb : But q w w') (hq : k ≠ q) : Bx5 w' k u0 u1 u2 u3 u4 := by
  obtain ⟨h0, h1, h2, h3, h4, h5, f1, f2, f3, f4, f5⟩ := h
  exact ⟨Nat.lt_of_lt_of_le h0 hb.2.2.2.1, by rw [hb.cell h0 hq]; exact h1, by rw [hb.cell h0 hq]; exact h2, by rw [hb.cell h0 hq]; exact h3, by rw [hb.cell h0 hq]; exact h4, by rw [hb.cell h0 hq]; exact h5, by rw [hb.frozen h0 hq]; exact f1, by rw [hb.frozen h0 hq]; exact f2, by rw [hb.frozen h0 hq]; exact f3, by rw [hb.frozen h0 hq]; exact f4, by rw [hb.frozen h0 hq]; exact f5⟩
theorem Bx5.alloc {k : Nat} {w : World} {u0 u1 u2 u3 u4 : Value} (h : Bx5 w k u0 u1 u2 u3 u4) (o : Obj) : Bx5 (w.alloc o) k u0 u1 u2 u3 u4 := h.below ((Below.refl _ _).alloc (Nat.le_refl _) _)
theorem Bx5.new (w : World) (u0 u1 u2 u3 u4 : Value) (T : TypeId) : Bx5 (w.alloc (.cells #[u0, u1, u2, u3, u4] T)) w.heap.size u0 u1 u2 u3 u4 := ⟨by simp, by simp, by simp, by simp, by simp, by simp, by simp, by simp, by simp, by simp, by simp⟩
theorem Bx5.drew {k : Nat} {w : World} {u0 u1 u2 u3 u4 : Value} (h : Bx5 w k u0 u1 u2 u3 u4) : Bx5 w.drew k u0 u1 u2 u3 u4 := h
theorem Bx5.setO {k j : Nat} {w : World} {u0 u1 u2 u3 u4 : Value} (h : Bx5 w k u0 u1 u2 u3 u4) (hk : j ≠ k) (o : Nat) (u : Value) : Bx5 (w.setCell ⟨j, o, none⟩ u) k u0 u1 u2 u3 u4 := by
  have hne : ∀ q, (⟨j, o, none⟩ : Addr) ≠ ⟨k, q, none⟩ := fun q e => hk (congrArg Addr.block e)
  obtain ⟨h0, h1, h2, h3, h4, h5, f1, f2, f3, f4, f5⟩ := h
  exact ⟨by simpa using h0, by rw [World.cell?_setCell_other _ _ _ _ (hne _)]; exact h1, by rw [World.cell?_setCell_other _ _ _ _ (hne _)]; exact h2, by rw [World.cell?_setCell_other _ _ _ _ (hne _)]; exact h3, by rw [World.cell?_setCell_other _ _ _ _ (hne _)]; exact h4, by rw [World.cell?_setCell_other _ _ _ _ (hne _)]; exact h5, by simpa using f1, by simpa using f2, by simpa using f3, by simpa using f4, by simpa using f5⟩
theorem Bx5.set0 {k : Nat} {w : World} {u0 u1 u2 u3 u4 : Value} (h : Bx5 w k u0 u1 u2 u3 u4) (x : Value) : Bx5 (w.setCell ⟨k, 0, none⟩ x) k x u1 u2 u3 u4 := by
  obtain ⟨h0, h1, h2, h3, h4, h5, f1, f2, f3, f4, f5⟩ := h
  exact ⟨by simpa using h0, World.cell?_setCell_same _ _ _ h1, (World.cell?_setCell_other _ _ _ _ (by simp)).trans h2, (World.cell?_setCell_other _ _ _ _ (by simp)).trans h3, (World.cell?_setCell_other _ _ _ _ (by simp)).trans h4, (World.cell?_setCell_other _ _ _ _ (by simp)).trans h5, by simpa using f1, by simpa using f2, by simpa using f3, by simpa using f4, by simpa using f5⟩
theorem Bx5.set1 {k : Nat} {w : World} {u0 u1 u2 u3 u4 : Value} (h : Bx5 w k u0 u1 u2 u3 u4) (x : Value) : Bx5 (w.setCell ⟨k, 1, none⟩ x) k u0 x u2 u3 u4 := by
  obtain ⟨h0, h1, h2, h3, h4, h5, f1, f2, f3, f4, f5⟩ := h
  exact ⟨by simpa using h0, (World.cell?_setCell_other _ _ _ _ (by simp)).trans h1, World.cell?_setCell_same _ _ _ h2, (World.cell?_setCell_other _ _ _ _ (by simp)).trans h3, (World.cell?_setCell_other _ _ _ _ (by simp)).trans h4, (World.cell?_setCell_other _ _ _ _ (by simp)).trans h5, by simpa using f1, by simpa using f2, by simpa using f3, by simpa using f4, by simpa using f5⟩
theorem Bx5.set2 {k : Nat} {w : World} {u0 u1 u2 u3 u4 : Value} (h : Bx5 w k u0 u1 u2 u3 u4) (x : Value) : Bx5 (w.setCell ⟨k, 2, none⟩ x) k u0 u1 x u3 u4 := by
  obtain ⟨h0, h1, h2, h3, h4, h5, f1, f2, f3, f4, f5⟩ := h
  exact ⟨by simpa using h0, (World.cell?_setCell_other _ _ _ _ (by simp)).trans h1, (World.cell?_setCell_other _ _ _ _ (by simp)).trans h2, World.cell?_setCell_same _ _ _ h3, (World.cell?_setCell_other _ _ _ _ (by simp)).trans h4, (World.cell?_setCell_other _ _ _ _ (by simp)).trans h5, by simpa using f1, by simpa using f2, by simpa using f3, by simpa using f4, by simpa using f5⟩
theorem Bx5.set3 {k : Nat} {w : World} {u0 u1 u2 u3 u4 : Value} (h : Bx5 w k u0 u1 u2 u3 u4) (x : Value) : Bx5 (w.setCell ⟨k, 3, none⟩ x) k u0 u1 u2 x u4 := by
  obtain ⟨h0, h1, h2, h3, h4, h5, f1, f2, f3, f4, f5⟩ := h
  exact ⟨by simpa using h0, (World.cell?_setCell_other _ _ _ _ (by simp)).trans h1, (World.cell?_setCell_other _ _ _ _ (by simp)).trans h2, (World.cell?_setCell_other _ _ _ _ (by simp)).trans h3, World.cell?_setCell_same _ _ _ h4, (World.cell?_setCell_other _ _ _ _ (by simp)).trans h5, by simpa using f1, by simpa using f2, by simpa using f3, by simpa using f4, by simpa using f5⟩
theorem Bx5.set4 {k : Nat} {w : World} {u0 u1 u2 u3 u4 : Value} (h : Bx5 w k u0 u1 u2 u3 u4) (x : Value) : Bx5 (w.setCell ⟨k, 4, none⟩ x) k u0 u1 u2 u3 x := by
  obtain ⟨h0, h1, h2, h3, h4, h5, f1, f2, f3, f4, f5⟩ := h
  exact ⟨by simpa using h0, (World.cell?_setCell_other _ _ _ _ (by simp)).trans h1, (World.cell?_setCell_other _ _ _ _ (by simp)).trans h2, (World.cell?_setCell_other _ _ _ _ (by simp)).trans h3, (World.cell?_setCell_other _ _ _ _ (by simp)).trans h4, World.cell?_setCell_same _ _ _ h5, by simpa using f1, by simpa using f2, by simpa using f3, by simpa using f4, by simpa using f5⟩
abbrev PT : Type := Int × Int × Int × Int × Bool
def zP : PT := (0, 0, 0, 0, false)
def MCPeer (M : PT) : Nat → Value
  | 0 => .int .i64 M.1
  | 1 => .int .i64 M.2.1
  | 2 => .int .i64 M.2.2.1
  | 3 => .int .i64 M.2.2.2.1
  | _ => .bool M.2.2.2.2
def MFPeer (M : Nat → PT) (c : Nat) : Value := MCPeer (M (c / 5)) (c % 5)
theorem MFPeer_at (M : Nat → PT) (k j : Nat) (hj : j < 5) : MFPeer M (k * 5 + j) = MCPeer (M k) j := by
  have h1 : (k * 5 + j) / 5 = k := by omega
  have h2 : (k * 5 + j) % 5 = j := by omega
  rw [MFPeer, h1, h2]
theorem MFPeer_vals {M : Nat → PT} {k : Nat} {x0 : Int} {x1 : Int} {x2 : Int} {x3 : Int} {x4 : Bool} (hM : M k = (x0, x1, x2, x3, x4)) : MFPeer M (k * 5) = .int .i64 x0 ∧ MFPeer M (k * 5 + 1) = .int .i64 x1 ∧ MFPeer M (k * 5 + 2) = .int .i64 x2 ∧ MFPeer M (k * 5 + 3) = .int .i64 x3 ∧ MFPeer M (k * 5 + 4) = .bool x4 :=
  ⟨by have q := MFPeer_at M k 0 (by decide); rw [hM] at q; exact q, by have q := MFPeer_at M k 1 (by decide); rw [hM] at q; exact q, by have q := MFPeer_at M k 2 (by decide); rw [hM] at q; exact q, by have q := MFPeer_at M k 3 (by decide); rw [hM] at q; exact q, by have q := MFPeer_at M k 4 (by decide); rw [hM] at q; exact q⟩
theorem Cs.elPeer {w : World} {b off n k : Nat} {M : Nat → PT} {x0 : Int} {x1 : Int} {x2 : Int} {x3 : Int} {x4 : Bool} (h : Cs w b off (n * 5) (MFPeer M)) (hk : k < n) (hM : M k = (x0, x1, x2, x3, x4)) : w.cell? ⟨b, off + k * 5, none⟩ = some (.int .i64 x0) ∧ w.cell? ⟨b, off + k * 5 + 1, none⟩ = some (.int .i64 x1) ∧ w.cell? ⟨b, off + k * 5 + 2, none⟩ = some (.int .i64 x2) ∧ w.cell? ⟨b, off + k * 5 + 3, none⟩ = some (.int .i64 x3) ∧ w.cell? ⟨b, off + k * 5 + 4, none⟩ = some (.bool x4) := by
  obtain ⟨q0, q1, q2, q3, q4⟩ := MFPeer_vals hM
  exact ⟨by have := h.2 (k * 5) (by omega); rw [q0] at this; exact this, by have := h.2 (k * 5 + 1) (by omega); rw [q1] at this; exact this, by have := h.2 (k * 5 + 2) (by omega); rw [q2] at this; exact this, by have := h.2 (k * 5 + 3) (by omega); rw [q3] at this; exact this, by have := h.2 (k * 5 + 4) (by omega); rw [q4] at this; exact this⟩
theorem tupPeer (M : Nat → PT) (k : Nat) : ∃ (x0 : Int) (x1 : Int) (x2 : Int) (x3 : Int) (x4 : Bool), M k = (x0, x1, x2, x3, x4) := ⟨_, _, _, _, _, rfl⟩
def mkPeer (q : Int) (c : Nat) : Value := if c % 5 = 4 then .bool ((q + (c : Int)) % 3 == 0) else .int .i64 (q + (c : Int))
theorem mkPeer_i {q : Int} {k j : Nat} {x : Int} (hj : j < 4) (h : x = q + ((k * 5 + j : Nat) : Int)) : mkPeer q (k * 5 + j) = .int .i64 x := by rw [mkPeer, if_neg (by omega), h]
theorem mkPeer_b {q : Int} {k : Nat} {x : Int} (h : x = q + ((k * 5 + 4 : Nat) : Int)) : mkPeer q (k * 5 + 4) = .bool (x % 3 == 0) := by rw [mkPeer, if_pos (by omega), h]
end Go.Proofs.YtblappilppfkiaaDoor
namespace Go.Proofs.YtblappilppfkiaaDoor
open Go.RowKit
set_option linter.unusedVariables false
theorem i64wrap {x : Int} (h1 : -9000000000000000000 ≤ x) (h2 : x ≤ 9000000000000000000) : IntKind.i64.wrap x = x := Go.IntWalk.i64_in _ ⟨by omega, by omega⟩
def apartI (al ah bl bh : Int) : Int := match okII al ah bl bh with | true => imx 0 (imx al bl - imn ah bh) | false => -1
theorem apartI_t {al ah bl bh : Int} (h : okII al ah bl bh = true) : apartI al ah bl bh = imx 0 (imx al bl - imn ah bh) := by rw [apartI, h]
theorem apartI_f {al ah bl bh : Int} (h : okII al ah bl bh = false) : apartI al ah bl bh = -1 := by rw [apartI, h]
theorem imx_bd {x y : Int} (h1 : -1000000000000 ≤ x) (h2 : x ≤ 1000000000000) (h3 : -1000000000000 ≤ y) (h4 : y ≤ 1000000000000) : -1000000000000 ≤ imx x y ∧ imx x y ≤ 1000000000000 := by unfold imx; split <;> omega
theorem imn_bd {x y : Int} (h1 : -1000000000000 ≤ x) (h2 : x ≤ 1000000000000) (h3 : -1000000000000 ≤ y) (h4 : y ≤ 1000000000000) : -1000000000000 ≤ imn x y ∧ imn x y ≤ 1000000000000 := by unfold imn; split <;> omega
theorem tdiv_bd (x n : Int) (h : 0 < n) : -(if x < 0 then -x else x) ≤ x.tdiv n ∧ x.tdiv n ≤ (if x < 0 then -x else x) := by
  have e : (x.tdiv n).natAbs = x.natAbs / n.natAbs := Int.natAbs_tdiv x n
  have l : x.natAbs / n.natAbs ≤ x.natAbs := Nat.div_le_self _ _
  generalize x.natAbs / n.natAbs = q at e l
  generalize x.tdiv n = y at e
  split <;> omega
theorem tdown (x n : Int) (h : 0 < n) (hm : x.tmod n < 0) : x / n = x.tdiv n - 1 := by
  rw [Int.tmod_eq_emod] at hm
  rw [Int.tdiv_eq_ediv]
  have hs : n.sign = 1 := Int.sign_eq_one_of_pos h
  have hr := Int.emod_nonneg x (b := n) (by omega)
  split at hm
  · omega
  · next hc => rw [if_neg hc, hs]; omega
theorem tdown' (x n : Int) (h : 0 < n) (hm : 0 ≤ x.tmod n) : x / n = x.tdiv n := by
  rw [Int.tmod_eq_emod] at hm
  rw [Int.tdiv_eq_ediv]
  have hs : n.sign = 1 := Int.sign_eq_one_of_pos h
  have hr := Int.emod_lt_of_pos x h
  split at hm
  · next hc => rw [if_pos hc]; omega
  · omega
def midI (lo hi : Int) : Int := match okI lo hi with | true => (lo + hi) / 2 | false => 0
theorem midI_t {lo hi : Int} (h : okI lo hi = true) : midI lo hi = (lo + hi) / 2 := by rw [midI, h]
theorem midI_f {lo hi : Int} (h : okI lo hi = false) : midI lo hi = 0 := by rw [midI, h]
set_option maxHeartbeats 400000 in
theorem l1Down_any (x n : Int) (w : World) (h1 : -9000000000000000000 ≤ x) (h2 : x ≤ 9000000000000000000) (hn : 0 < n) (hn2 : n ≤ 9000000000000000000) :
    Calls Tryd.prog 70 #[.int .i64 x, .int .i64 n] w fun e w' => e = .returned (.int .i64 (x / n)) ∧ w = w' := by
  have hne : (n == 0) = false := by rw [beq_eq_false_iff_ne]; omega
  have hq1 : -9000000000000000000 ≤ x.tdiv n := by have := tdiv_bd x n hn; omega
  have hq2 : x.tdiv n ≤ 9000000000000000000 := by have := tdiv_bd x n hn; omega
  go_enter Tryd.func70, Tryd.ntmps70
  go_wp2
  all_goals go_ret
  all_goals exact ⟨ret_int (by first | exact (tdown x n hn ‹_›).symm | exact (tdown' x n hn ‹_›).symm), rfl⟩
end Go.Proofs.YtblappilppfkiaaDoor
namespace Go.Proofs.YtblappilppfkiaaDoor
open Go.RowKit
set_option linter.unusedVariables false
theorem mul_bd {x y X Y : Int} (h1 : 0 ≤ x) (h2 : x ≤ X) (h3 : 0 ≤ y) (h4 : y ≤ Y) : 0 ≤ x * y ∧ x * y ≤ X * Y :=
  ⟨Int.mul_nonneg h1 h3, Int.mul_le_mul h2 h4 h3 (Int.le_trans h1 h2)⟩
def okD (n d : Int) : Bool := decide (1 ≤ d ∧ d ≤ 1000000 ∧ 0 ≤ n ∧ 2 * n ≤ d)
theorem okD_t {n d : Int} (h : okD n d = true) : 1 ≤ d ∧ d ≤ 1000000 ∧ 0 ≤ n ∧ 2 * n ≤ d := of_decide_eq_true h
theorem okD_f {n d : Int} (h : okD n d = false) : ¬ (1 ≤ d ∧ d ≤ 1000000 ∧ 0 ≤ n ∧ 2 * n ≤ d) := of_decide_eq_false h
def okT (t : Int) : Bool := decide (0 ≤ t ∧ t ≤ 1000000000000)
theorem okT_t {t : Int} (h : okT t = true) : 0 ≤ t ∧ t ≤ 1000000000000 := of_decide_eq_true h
theorem okT_f {t : Int} (h : okT t = false) : ¬ (0 ≤ t ∧ t ≤ 1000000000000) := of_decide_eq_false h
set_option maxHeartbeats 400000 in
theorem specDriftOk_any (n d : Int) (w : World) :
    Calls Tryd.prog 17 #[.agg #[.int .i64 n, .int .i64 d]] w fun e w' => e = .returned (.bool (okD n d)) ∧ Below w.heap.size w w' := by
  go_enter Tryd.func17, Tryd.ntmps17
  go_wp2
  all_goals go_ret
  all_goals exact ⟨ret_bool (by rw [Bool.eq_iff_iff]; simp [okD]; try omega), by repeat (first | exact Below.refl _ _ | refine Below.drew ?_ | refine Below.alloc ?_ (by first | (simp; done) | (simp; omega) | omega) _ | refine Below.setCell ?_ (by first | (simp; done) | (simp; omega) | omega) _ | refine Below.trans ?_ (Below.mono (by assumption) (by first | (simp; done) | (simp; omega) | omega)))⟩
set_option maxHeartbeats 400000 in
theorem okd_any (n d : Int) (w : World) :
    Calls Tryd.prog 39 #[.agg #[.int .i64 n, .int .i64 d]] w fun e w' => e = .returned (.bool (okD n d)) ∧ Below w.heap.size w w' := by
  have hd : d.tdiv 2 = if 0 ≤ d then d / 2 else -(-d / 2) := by
    split
    · exact Int.tdiv_eq_ediv_of_nonneg ‹_›
    · have h := Int.neg_tdiv (a := -d) (b := 2)
      have k : (-d).tdiv 2 = -d / 2 := Int.tdiv_eq_ediv_of_nonneg (by omega)
      rw [Int.neg_neg, k] at h
      exact h
  go_enter Tryd.func39, Tryd.ntmps39
  go_wp2
  all_goals go_ret
  all_goals exact ⟨ret_bool (by rw [Bool.eq_iff_iff]; simp [okD]; try (split at hd <;> omega)), by repeat (first | exact Below.refl _ _ | refine Below.drew ?_ | refine Below.alloc ?_ (by first | (simp; done) | (simp; omega) | omega) _ | refine Below.setCell ?_ (by first | (simp; done) | (simp; omega) | omega) _ | refine Below.trans ?_ (Below.mono (by assumption) (by first | (simp; done) | (simp; omega) | omega)))⟩
set_option maxHeartbeats 400000 in
theorem l2Time_any (t : Int) (w : World) :
    Calls Tryd.prog 59 #[.int .i64 t] w fun e w' => e = .returned (.bool (okT t)) ∧ w = w' := by
  go_enter Tryd.func59, Tryd.ntmps59
  go_wp2
  all_goals go_ret
  all_goals exact ⟨ret_bool (by rw [Bool.eq_iff_iff]; simp [okT]; try omega), rfl⟩
set_option maxHeartbeats 400000 in
theorem slowest_any (n d : Int) (w : World) (h : okD n d = true) :
    Calls Tryd.prog 41 #[.agg #[.int .i64 n, .int .i64 d]] w fun e w' => e = .returned (.int .i64 (d - n)) ∧ Below w.heap.size w w' := by
  have ⟨h1, h2, h3, h4⟩ := okD_t h
  go_enter Tryd.func41, Tryd.ntmps41
  go_wp2
  go_ret
  exact ⟨rfl, by repeat (first | exact Below.refl _ _ | refine Below.drew ?_ | refine Below.alloc ?_ (by first | (simp; done) | (simp; omega) | omega) _ | refine Below.setCell ?_ (by first | (simp; done) | (simp; omega) | omega) _ | refine Below.trans ?_ (Below.mono (by assumption) (by first | (simp; done) | (simp; omega) | omega)))⟩
set_option maxHeartbeats 400000 in
theorem fastest_any (n d : Int) (w : World) (h : okD n d = true) :
    Calls Tryd.prog 40 #[.agg #[.int .i64 n, .int .i64 d]] w fun e w' => e = .returned (.int .i64 (d + n)) ∧ Below w.heap.size w w' := by
  have ⟨h1, h2, h3, h4⟩ := okD_t h
  go_enter Tryd.func40, Tryd.ntmps40
  go_wp2
  go_ret
  exact ⟨rfl, by repeat (first | exact Below.refl _ _ | refine Below.drew ?_ | refine Below.alloc ?_ (by first | (simp; done) | (simp; omega) | omega) _ | refine Below.setCell ?_ (by first | (simp; done) | (simp; omega) | omega) _ | refine Below.trans ?_ (Below.mono (by assumption) (by first | (simp; done) | (simp; omega) | omega)))⟩
set_option maxHeartbeats 400000 in
theorem slowest_wrap (n d : Int) (w : World) :
    Calls Tryd.prog 41 #[.agg #[.int .i64 n, .int .i64 d]] w fun e w' => e = .returned (.int .i64 (wrap64 (d - n))) ∧ Below w.heap.size w w' := by
  go_enter Tryd.func41, Tryd.ntmps41
  go_wp2
  go_ret
  exact ⟨rfl, by repeat (first | exact Below.refl _ _ | refine Below.drew ?_ | refine Below.alloc ?_ (by first | (simp; done) | (simp; omega) | omega) _ | refine Below.setCell ?_ (by first | (simp; done) | (simp; omega) | omega) _ | refine Below.trans ?_ (Below.mono (by assumption) (by first | (simp; done) | (simp; omega) | omega)))⟩
set_option maxHeartbeats 400000 in
theorem fastest_wrap (n d : Int) (w : World) :
    Calls Tryd.prog 40 #[.agg #[.int .i64 n, .int .i64 d]] w fun e w' => e = .returned (.int .i64 (wrap64 (d + n))) ∧ Below w.heap.size w w' := by
  go_enter Tryd.func40, Tryd.ntmps40
  go_wp2
  go_ret
  exact ⟨rfl, by repeat (first | exact Below.refl _ _ | refine Below.drew ?_ | refine Below.alloc ?_ (by first | (simp; done) | (simp; omega) | omega) _ | refine Below.setCell ?_ (by first | (simp; done) | (simp; omega) | omega) _ | refine Below.trans ?_ (Below.mono (by assumption) (by first | (simp; done) | (simp; omega) | omega)))⟩
def dnI (x n : Int) : Int := x / n
def upI (x n : Int) : Int := (x + n - 1) / n
theorem div_bd {x n : Int} (hx : 0 ≤ x) (hn : 0 < n) : 0 ≤ x / n ∧ x / n ≤ x :=
  ⟨Int.ediv_nonneg hx (by omega), Int.ediv_le_self n hx⟩
theorem dnI_bd {x n : Int} (hx : 0 ≤ x) (hn : 0 < n) : 0 ≤ dnI x n ∧ dnI x n ≤ x := div_bd hx hn
theorem upI_neg {x n : Int} (hn : 0 < n) : -(-x / n) = upI x n := by
  have a := Int.emod_add_mul_ediv (-x) n
  have b := Int.emod_nonneg (-x) (b := n) (by omega)
  have c := Int.emod_lt_of_pos (-x) hn
  unfold upI
  generalize -x / n = q at a ⊢
  generalize -x % n = r at a b c
  have e : x + n - 1 = (n - 1 - r) + n * -q := by rw [Int.mul_neg]; omega
  have z : (n - 1 - r) / n = 0 := Int.ediv_eq_zero_of_lt (by omega) (by omega)
  rw [e, Int.add_mul_ediv_left _ _ (by omega), z]
  omega
theorem upI_bd {x n : Int} (hx : 0 ≤ x) (hn : 0 < n) : 0 ≤ upI x n ∧ upI x n ≤ x := by
  have h0 : 0 ≤ upI x n := Int.ediv_nonneg (by omega) (by omega)
  refine ⟨h0, ?_⟩
  rw [← upI_neg hn] at h0 ⊢
  have a := Int.emod_add_mul_ediv (-x) n
  have b := Int.emod_nonneg (-x) (b := n) (by omega)
  have d := Int.emod_lt_of_pos (-x) hn
  generalize -x / n = q at a h0 ⊢
  generalize -x % n = r at a b d
  by_cases hq : q = 0
  · omega
  · have c : (n - 1) * 1 ≤ (n - 1) * -q := Int.mul_le_mul_of_nonneg_left (by omega) (by omega)
    rw [Int.sub_mul n 1 (-q), Int.mul_neg, Int.one_mul] at c
    omega
set_option maxHeartbeats 400000 in
theorem l1Up_any (x n : Int) (w : World) (h1 : 0 ≤ x) (h2 : x ≤ 4000000000000000000) (hn : 0 < n) (hn2 : n ≤ 4000000000000000000) :
    Calls Tryd.prog 69 #[.int .i64 x, .int .i64 n] w fun e w' => e = .returned (.int .i64 (upI x n)) ∧ w = w' := by
  have hq : -(-x / n) = upI x n := upI_neg hn
  have ⟨b1, b2⟩ := upI_bd h1 hn
  go_enter Tryd.func69, Tryd.ntmps69
  go_wp2_with (first | (go_at_call 70; refine (l1Down_any _ _ _ (by omega) (by omega) (by omega) (by omega)).mono ?_; rintro e w' ⟨rfl, rfl⟩))
  all_goals go_ret
  all_goals exact ⟨ret_int (by first | exact hq | exact rfl | (rw [hq]; exact i64wrap (by omega) (by omega))), rfl⟩
set_option maxHeartbeats 400000 in
theorem l2Told_any (x : Int) (w : World) (h : 0 ≤ x) :
    Calls Tryd.prog 68 #[.int .i64 x] w fun e w' => e = .returned (.tuple #[.int .i64 (sel (okT x) x), .bool (okT x)]) ∧ w = w' := by
  cases ht : okT x
  · have := okT_f ht
    rw [sel_f rfl]
    go_enter Tryd.func68, Tryd.ntmps68
    go_wp2
    all_goals go_ret2
    all_goals first | exact ⟨rfl, rfl⟩ | omega
  · have := okT_t ht
    rw [sel_t rfl]
    go_enter Tryd.func68, Tryd.ntmps68
    go_wp2
    all_goals go_ret2
    all_goals first | exact ⟨rfl, rfl⟩ | omega
end Go.Proofs.YtblappilppfkiaaDoor
namespace Go.Proofs.YtblappilppfkiaaDoor
open Go.RowKit
set_option linter.unusedVariables false
def nodB (n : Int) : Bool := decide (0 ≤ n ∧ n ≤ 7)
def adB (fr tuu no : Int) : Bool := nodB fr && nodB tuu && (fr != tuu) && decide (0 ≤ no ∧ no ≤ 100000999)
def Box8 (w : World) (j : Nat) (k fr tuu no lo hi sl : Int) (s : ByteArray) : Prop := j < w.heap.size ∧ w.cell? ⟨j, 0, none⟩ = some (.int .i64 k) ∧ w.cell? ⟨j, 1, none⟩ = some (.int .i64 fr) ∧ w.cell? ⟨j, 2, none⟩ = some (.int .i64 tuu) ∧ w.cell? ⟨j, 3, none⟩ = some (.int .i64 no) ∧ w.cell? ⟨j, 4, none⟩ = some (.int .i64 lo) ∧ w.cell? ⟨j, 5, none⟩ = some (.int .i64 hi) ∧ w.cell? ⟨j, 6, none⟩ = some (.int .i64 sl) ∧ w.cell? ⟨j, 7, none⟩ = some (.string s)
theorem Box8.belowB {j B : Nat} {w w' : World} {k fr tuu no lo hi sl : Int} {s : ByteArray} (h : Box8 w j k fr tuu no lo hi sl s) (hw : Below B w w') (hk : j < B) : Box8 w' j k fr tuu no lo hi sl s := by
  obtain ⟨h0, h1, h2, h3, h4, h5, h6, h7, h8⟩ := h
  exact ⟨Nat.lt_of_lt_of_le h0 hw.size, by rw [hw.cell (p := ⟨j, 0, none⟩) hk]; exact h1, by rw [hw.cell (p := ⟨j, 1, none⟩) hk]; exact h2, by rw [hw.cell (p := ⟨j, 2, none⟩) hk]; exact h3, by rw [hw.cell (p := ⟨j, 3, none⟩) hk]; exact h4, by rw [hw.cell (p := ⟨j, 4, none⟩) hk]; exact h5, by rw [hw.cell (p := ⟨j, 5, none⟩) hk]; exact h6, by rw [hw.cell (p := ⟨j, 6, none⟩) hk]; exact h7, by rw [hw.cell (p := ⟨j, 7, none⟩) hk]; exact h8⟩
theorem Box8.below {j : Nat} {w w' : World} {k fr tuu no lo hi sl : Int} {s : ByteArray} (h : Box8 w j k fr tuu no lo hi sl s) (hw : Below w.heap.size w w') : Box8 w' j k fr tuu no lo hi sl s := h.belowB hw h.1
theorem Box8.new (w : World) (k fr tuu no lo hi sl : Int) (s : ByteArray) (T : TypeId) : Box8 (w.alloc (.cells #[.int .i64 k, .int .i64 fr, .int .i64 tuu, .int .i64 no, .int .i64 lo, .int .i64 hi, .int .i64 sl, .string s] T)) w.heap.size k fr tuu no lo hi sl s := ⟨by simp, by simp, by simp, by simp, by simp, by simp, by simp, by simp, by simp⟩
def emp (s : ByteArray) : Bool := decide (s.toList = [])
def msgB (k fr tuu no lo hi sl : Int) (s : ByteArray) : Bool :=
  if k = 1 then adB fr tuu no && (lo == 0) && (hi == 0) && (sl == 0) && emp s
  else if k = 2 then adB fr tuu no && okI lo hi && (sl == 0) && emp s
  else if k = 3 then nodB fr && decide (0 ≤ sl ∧ sl ≤ 15) && decide (s.size ≤ 24) && (tuu == 0) && (no == 0) && (lo == 0) && (hi == 0)
  else false
end Go.Proofs.YtblappilppfkiaaDoor
namespace Go.Proofs.YtblappilppfkiaaDoor
open Go.RowKit
set_option linter.unusedVariables false
def pOk (M : PT) : Bool := nodB M.1 && okI M.2.1 M.2.2.1 && okT M.2.2.2.1
def prv (M : Nat → PT) : Nat → Int
  | 0 => -1
  | k + 1 => (M k).1
def elP (M : Nat → PT) (k : Nat) : Bool := pOk (M k) && decide (prv M k < (M k).1)
/- The first n of M are peers, ascending. -/
def oks (M : Nat → PT) : Nat → Bool
  | 0 => true
  | k + 1 => oks M k && elP M k
theorem oks_step {M : Nat → PT} {k : Nat} (h : oks M k = true) (h2 : elP M k = true) : oks M (k + 1) = true := by rw [oks, h, h2]; rfl
theorem oks_no {M : Nat → PT} {k : Nat} (h : elP M k = false) : ∀ n, k < n → oks M n = false
  | 0, hk => absurd hk (Nat.not_lt_zero _)
  | n + 1, hk => by
    rw [oks]
    by_cases e : k = n
    · subst e; rw [h]; simp
    · rw [oks_no h n (by omega)]; rfl
theorem oks_el {M : Nat → PT} : ∀ {n : Nat}, oks M n = true → ∀ k, k < n → elP M k = true
  | 0, _, k, hk => absurd hk (Nat.not_lt_zero _)
  | n + 1, h, k, hk => by
    rw [oks, Bool.and_eq_true] at h
    by_cases e : k = n
    · subst e; exact h.2
    · exact oks_el h.1 k (by omega)
theorem nodB_t {x : Int} (h : nodB x = true) : 0 ≤ x ∧ x ≤ 7 := of_decide_eq_true h
theorem elP_t {M : Nat → PT} {k : Nat} (h : elP M k = true) : pOk (M k) = true ∧ prv M k < (M k).1 := by simpa [elP] using h
theorem pOk_t {m : PT} (h : pOk m = true) : nodB m.1 = true ∧ okI m.2.1 m.2.2.1 = true ∧ okT m.2.2.2.1 = true := by
  unfold pOk at h
  simp only [Bool.and_eq_true] at h
  exact ⟨h.1.1, h.1.2, h.2⟩
theorem oks_ge {M : Nat → PT} {n : Nat} (h : oks M n = true) : ∀ k, k < n → (k : Int) ≤ (M k).1
  | 0, hk => by
    have := nodB_t (pOk_t (elP_t (oks_el h 0 hk)).1).1
    omega
  | k + 1, hk => by
    have h1 := oks_ge h k (by omega)
    have h2 : (M k).1 < (M (k + 1)).1 := (elP_t (oks_el h (k + 1) hk)).2
    omega
theorem oks_le {M : Nat → PT} {n : Nat} (h : oks M n = true) : n ≤ 8 := by
  by_cases hn : n ≤ 8
  · exact hn
  · have h1 := oks_ge h (n - 1) (by omega)
    have h2 := nodB_t (pOk_t (elP_t (oks_el h (n - 1) (by omega))).1).1
    omega
theorem oks_long {M : Nat → PT} {n : Nat} (h : ¬ n ≤ 8) : oks M n = false := by
  cases e : oks M n
  · rfl
  · exact absurd (oks_le e) h
theorem oks_asc {M : Nat → PT} {n : Nat} (h : oks M n = true) {i : Nat} : ∀ {j : Nat}, i < j → j < n → (M i).1 < (M j).1
  | 0, hij, _ => absurd hij (Nat.not_lt_zero _)
  | j + 1, hij, hj => by
    have h2 : (M j).1 < (M (j + 1)).1 := (elP_t (oks_el h (j + 1) hj)).2
    by_cases e : i = j
    · subst e; exact h2
    · exact Int.lt_trans (oks_asc h (by omega) (by omega)) h2
theorem oks_p {M : Nat → PT} {n : Nat} (h : oks M n = true) {k : Nat} (hk : k < n) : nodB (M k).1 = true ∧ okI (M k).2.1 (M k).2.2.1 = true ∧ okT (M k).2.2.2.1 = true := pOk_t (elP_t (oks_el h k hk)).1
end Go.Proofs.YtblappilppfkiaaDoor
namespace Go.Proofs.YtblappilppfkiaaDoor
open Go.RowKit
set_option linter.unusedVariables false
theorem But.grK {w w' : World} {q : Nat} (h : But q w w') : w.grownBy w' (some q) := ⟨h.1, h.2.1, h.2.2.1, h.2.2.2.1, fun k hk hp => h.2.2.2.2 k hk (fun e => hp (by rw [e]))⟩
theorem But.ofGrownK {w w' : World} {q : Nat} (h : w.grownBy w' (some q)) : But q w w' := ⟨h.os, h.tape, h.output, h.size, fun k hk hq => h.block k hk (fun e => hq (by simpa using e))⟩
def SrcK (w : World) (a : Option Addr) (m : Nat) (F : Nat → Value) (L : Nat) : Prop := m = 0 ∨ ∃ b off, a = some ⟨b, off, none⟩ ∧ b < L ∧ Cs w b off m F
theorem SrcK.of {w : World} {a : Option Addr} {m : Nat} {F : Nat → Value} (h : SrcC w a m F) : SrcK w a m F w.heap.size := by
  rcases h with h | ⟨b, off, h1, h2⟩
  · exact .inl h
  · exact .inr ⟨b, off, h1, h2.1, h2⟩
theorem SrcK.src {w : World} {a : Option Addr} {m L : Nat} {F : Nat → Value} (h : SrcK w a m F L) : SrcC w a m F := by
  rcases h with h | ⟨b, off, h1, _, h2⟩
  · exact .inl h
  · exact .inr ⟨b, off, h1, h2⟩
theorem SrcK.below {w w' : World} {a : Option Addr} {m L : Nat} {F : Nat → Value} (h : SrcK w a m F L) (hb : Below w.heap.size w w') : SrcK w' a m F L := by
  rcases h with h | ⟨b, off, h1, h3, h2⟩
  · exact .inl h
  · exact .inr ⟨b, off, h1, h3, h2.below hb h2.1⟩
theorem Cs.kept {w w' : World} {o : Option Nat} {b off N : Nat} {F : Nat → Value} (h : Cs w b off N F) (hg : w.grownBy w' o) (hne : some b ≠ o) : Cs w' b off N F :=
  ⟨Nat.lt_of_lt_of_le h.1 hg.size, fun j hj => by
    have := hg.block b h.1 hne
    have q := h.2 j hj
    simp only [World.cell?] at q ⊢
    rw [this]; exact q⟩
theorem SrcK.kept {w w' : World} {o : Option Nat} {a : Option Addr} {m L : Nat} {F : Nat → Value} (h : SrcK w a m F L) (hg : w.grownBy w' o) (hne : ∀ b, b < L → some b ≠ o) : SrcK w' a m F L := by
  rcases h with h | ⟨b, off, h1, h3, h2⟩
  · exact .inl h
  · exact .inr ⟨b, off, h1, h3, h2.kept hg (hne b h3)⟩
theorem SrcC.keptK {w w' : World} {o : Option Nat} {a : Option Addr} {m : Nat} {F : Nat → Value} (h : SrcC w a m F) (hg : w.grownBy w' o) (hne : ∀ b off, a = some ⟨b, off, none⟩ → some b ≠ o) : SrcC w' a m F := by
  rcases h with h | ⟨b, off, h1, h2⟩
  · exact .inl h
  · exact .inr ⟨b, off, h1, h2.kept hg (hne b off h1)⟩
theorem cell_grown {w w' : World} {o : Option Nat} {b i : Nat} (hg : w.grownBy w' o) (hb : b < w.heap.size) (hne : some b ≠ o) : w'.cell? ⟨b, i, none⟩ = w.cell? ⟨b, i, none⟩ := by
  have := hg.block b hb hne
  simp only [World.cell?]
  rw [this]
theorem grown_bel {w w' : World} {o : Option Nat} {B : Nat} (hg : w.grownBy w' o) (hB : B ≤ w.heap.size) (hne : ∀ b, b < B → some b ≠ o) : Below B w w' := ⟨hg.os, hg.tape, hg.output, hg.size, fun k hk => hg.block k (by omega) (hne k hk)⟩
theorem bel_grown {w w' : World} (h : Below w.heap.size w w') : w.grownBy w' none := ⟨h.os, h.tape, h.output, h.size, fun k hk _ => h.block k hk⟩
theorem own_at {w : World} {base : Nat} {e : TypeId} {s n c : Nat} {a : Option Addr} {xs : List Value} (h : w.ownsRow base e s (.slice a n c) n xs) {b off : Nat} (ha : a = some ⟨b, off, none⟩) : (Value.slice a n c).ownBlock = some b := by
  rcases h.2 with ⟨he, _⟩ | ⟨g, cap, cur, he, _⟩
  · simp at he; rw [he.1] at ha; cases ha
  · simp at he; rw [he.1] at ha; simp at ha; rw [he.1, ← ha.1]; rfl
theorem own_neK {w w' : World} {base p : Nat} {e : TypeId} {size : Nat} {v : Value} {n : Nat} {xs : List Value} (h : w.ownsRow base e size v n xs) (hb : But p w w') (hp : ∀ g, v.ownBlock = some g → g ≠ p) : w'.ownsRow base e size v n xs := by
  refine World.ownsRow.kept h hb.grK ?_
  cases hv : v.ownBlock with
  | none => exact .inl rfl
  | some k =>
    right
    intro e
    injection e with e
    exact hp k hv e
theorem own_butK {w w' : World} {base p : Nat} {e : TypeId} {size : Nat} {v : Value} {n : Nat} {xs : List Value} (h : w.ownsRow base e size v n xs) (hb : But p w w') (hp : p < base) : w'.ownsRow base e size v n xs :=
  own_neK h hb fun g hg e => by have := (World.ownsRow.lt h g hg).1; omega
theorem own_belK {w w' : World} {B base : Nat} {e : TypeId} {size : Nat} {v : Value} {n : Nat} {xs : List Value} (h : w.ownsRow base e size v n xs) (hb : Below B w w') (hlt : ∀ g, v.ownBlock = some g → g < B) : w'.ownsRow base e size v n xs := by
  refine ⟨h.1, ?_⟩
  rcases h.2 with h | ⟨g, cap, cur, rfl, h2, h3, h4⟩
  · exact .inl h
  · exact .inr ⟨g, cap, cur, rfl, h2, (hb.block g (hlt g rfl)).trans h3, h4⟩
theorem own_belK' {w w' : World} {base : Nat} {e : TypeId} {size : Nat} {v : Value} {n : Nat} {xs : List Value} (h : w.ownsRow base e size v n xs) (hb : Below w.heap.size w w') : w'.ownsRow base e size v n xs := own_belK h hb fun g hg => (World.ownsRow.lt h g hg).2
theorem grown_belowK {w w' : World} {base : Nat} {e : TypeId} {size : Nat} {v : Value} {n : Nat} {xs : List Value} (h : w.ownsRow base e size v n xs) (hg : w.grownBy w' v.ownBlock) (hs : base ≤ w.heap.size) : Below base w w' :=
  ⟨hg.os, hg.tape, hg.output, hg.size, fun k hk => hg.block k (by omega) (fun he => by have := (World.ownsRow.lt h k he.symm).1; omega)⟩
theorem ne_own {p q : Option Nat} (h : ∀ g, p = some g → q ≠ some g) : q = none ∨ q ≠ p := by
  cases q with
  | none => exact .inl rfl
  | some k => exact .inr fun e => h k e.symm rfl
theorem ne_own' {p q : Option Nat} (h : ∀ g, p = some g → q ≠ some g) (hp : p ≠ none) : p ≠ q := by
  cases p with
  | none => exact absurd rfl hp
  | some k => exact fun e => h k rfl e.symm
def MFInt (f : Nat → Int) (c : Nat) : Value := .int .i64 (f c)
def mkInt (q : Int) (c : Nat) : Value := .int .i64 (q + (c : Int))
abbrev VT : Type := Int × Int
def zV : VT := (0, 0)
def MCIval (M : VT) : Nat → Value
  | 0 => .int .i64 M.1
  | _ => .int .i64 M.2
def MFIval (M : Nat → VT) (c : Nat) : Value := MCIval (M (c / 2)) (c % 2)
theorem MFIval_at (M : Nat → VT) (k j : Nat) (hj : j < 2) : MFIval M (k * 2 + j) = MCIval (M k) j := by
  have h1 : (k * 2 + j) / 2 = k := by omega
  have h2 : (k * 2 + j) % 2 = j := by omega
  rw [MFIval, h1, h2]
theorem MFIval_vals {M : Nat → VT} {k : Nat} {x0 : Int} {x1 : Int} (hM : M k = (x0, x1)) : MFIval M (k * 2) = .int .i64 x0 ∧ MFIval M (k * 2 + 1) = .int .i64 x1 :=
  ⟨by have q := MFIval_at M k 0 (by decide); rw [hM] at q; exact q, by have q := MFIval_at M k 1 (by decide); rw [hM] at q; exact q⟩
theorem Cs.elIval {w : World} {b off n k : Nat} {M : Nat → VT} {x0 : Int} {x1 : Int} (h : Cs w b off (n * 2) (MFIval M)) (hk : k < n) (hM : M k = (x0, x1)) : w.cell? ⟨b, off + k * 2, none⟩ = some (.int .i64 x0) ∧ w.cell? ⟨b, off + k * 2 + 1, none⟩ = some (.int .i64 x1) := by
  obtain ⟨q0, q1⟩ := MFIval_vals hM
  exact ⟨by have := h.2 (k * 2) (by omega); rw [q0] at this; exact this, by have := h.2 (k * 2 + 1) (by omega); rw [q1] at this; exact this⟩
theorem tupIval (M : Nat → VT) (k : Nat) : ∃ (x0 : Int) (x1 : Int), M k = (x0, x1) := ⟨_, _, rfl⟩
def rowObjIval (n : Nat) : Obj := .cells (madeCells #[.int .i64 0, .int .i64 0] (n * 2)) 49
theorem infoIval : (Tryd.prog.info? 49).map (fun i => (i.zero, i.size, i.bytes)) = some (some (.agg #[.int .i64 0, .int .i64 0]), 2, 16) := by kernel_rfl
theorem rowObjIval_is (w : World) (n : Nat) (F : Nat → Value) : RowF (w.alloc (rowObjIval n)) w.heap.size 49 (n * 2) 0 F := by
  have h := World.rowIs_alloc w (madeCells #[.int .i64 0, .int .i64 0] (n * 2)) 49 (fun i => (madeCells #[.int .i64 0, .int .i64 0] (n * 2)).getD i undef) (fun i hi => by
    rw [Array.getElem?_eq_getElem hi]; exact congrArg some (by rw [Array.getD_eq_getD_getElem?, Array.getElem?_eq_getElem hi]; rfl))
  rw [size_madeCells] at h
  exact ⟨_, h, fun j hj => absurd hj (Nat.not_lt_zero _)⟩
def mkIval (q : Int) (c : Nat) : Value := .int .i64 (q + (c : Int))
theorem mkIval_i {q : Int} {k j : Nat} {x : Int} (h : x = q + ((k * 2 + j : Nat) : Int)) : mkIval q (k * 2 + j) = .int .i64 x := by rw [mkIval, h]
def gI (L : List Int) (i : Nat) : Int := L.getD i 0
def irow (L : List Int) : List Value := (List.range (L.length * 1)).map (MFInt (gI L))
theorem gI_old {L : List Int} {p : Int} {i : Nat} (h : i < L.length) : gI (L ++ [p]) i = gI L i := by rw [gI, gI, List.getD_eq_getElem?_getD, List.getD_eq_getElem?_getD, List.getElem?_append_left h]
theorem gI_new (L : List Int) (p : Int) : gI (L ++ [p]) L.length = p := by rw [gI, List.getD_eq_getElem?_getD, List.getElem?_append_right (Nat.le_refl _), Nat.sub_self]; rfl
theorem irow_snoc (L : List Int) (p : Int) : irow (L ++ [p]) = irow L ++ [.int .i64 p] := by
  rw [irow, List.length_append, show [p].length = 1 from rfl, mapF_add, irow]
  congr 1
  · refine List.map_congr_left fun c hc => ?_
    have hc' : c < L.length * 1 := List.mem_range.1 hc
    show Value.int .i64 (gI (L ++ [p]) c) = .int .i64 (gI L c)
    rw [gI_old (by omega)]
  · show [Value.int .i64 (gI (L ++ [p]) (L.length * 1 + 0))] = [.int .i64 p]
    rw [Nat.mul_one, Nat.add_zero, gI_new]
def gV (L : List VT) (i : Nat) : VT := L.getD i zV
def vrow (L : List VT) : List Value := (List.range (L.length * 2)).map (MFIval (gV L))
theorem gV_old {L : List VT} {p : VT} {i : Nat} (h : i < L.length) : gV (L ++ [p]) i = gV L i := by rw [gV, gV, List.getD_eq_getElem?_getD, List.getD_eq_getElem?_getD, List.getElem?_append_left h]
theorem gV_new (L : List VT) (p : VT) : gV (L ++ [p]) L.length = p := by rw [gV, List.getD_eq_getElem?_getD, List.getElem?_append_right (Nat.le_refl _), Nat.sub_self]; rfl
theorem vrow_snoc (L : List VT) (p : VT) : vrow (L ++ [p]) = vrow L ++ [.int .i64 p.1, .int .i64 p.2] := by
  rw [vrow, List.length_append, show [p].length = 1 from rfl, mapF_add, vrow]
  congr 1
  · refine List.map_congr_left fun c hc => ?_
    have hc' : c < L.length * 2 := List.mem_range.1 hc
    show MCIval (gV (L ++ [p]) (c / 2)) _ = MCIval (gV L (c / 2)) _
    rw [gV_old (by omega)]
  · show [MFIval (gV (L ++ [p])) (L.length * 2 + 0), MFIval (gV (L ++ [p])) (L.length * 2 + 1)] = _
    rw [MFIval_at _ _ 0 (by decide), MFIval_at _ _ 1 (by decide), gV_new]
    rfl
def gP (L : List PT) (i : Nat) : PT := L.getD i zP
def prow (L : List PT) : List Value := (List.range (L.length * 5)).map (MFPeer (gP L))
theorem gP_old {L : List PT} {p : PT} {i : Nat} (h : i < L.length) : gP (L ++ [p]) i = gP L i := by rw [gP, gP, List.getD_eq_getElem?_getD, List.getD_eq_getElem?_getD, List.getElem?_append_left h]
theorem gP_new (L : List PT) (p : PT) : gP (L ++ [p]) L.length = p := by rw [gP, List.getD_eq_getElem?_getD, List.getElem?_append_right (Nat.le_refl _), Nat.sub_self]; rfl
theorem prow_snoc (L : List PT) (p : PT) : prow (L ++ [p]) = prow L ++ [.int .i64 p.1, .int .i64 p.2.1, .int .i64 p.2.2.1, .int .i64 p.2.2.2.1, .bool p.2.2.2.2] := by
  rw [prow, List.length_append, show [p].length = 1 from rfl, mapF_add, prow]
  congr 1
  · refine List.map_congr_left fun c hc => ?_
    have hc' : c < L.length * 5 := List.mem_range.1 hc
    show MCPeer (gP (L ++ [p]) (c / 5)) _ = MCPeer (gP L (c / 5)) _
    rw [gP_old (by omega)]
  · show [MFPeer (gP (L ++ [p])) (L.length * 5 + 0), MFPeer (gP (L ++ [p])) (L.length * 5 + 1), MFPeer (gP (L ++ [p])) (L.length * 5 + 2), MFPeer (gP (L ++ [p])) (L.length * 5 + 3), MFPeer (gP (L ++ [p])) (L.length * 5 + 4)] = _
    rw [MFPeer_at _ _ 0 (by decide), MFPeer_at _ _ 1 (by decide), MFPeer_at _ _ 2 (by decide), MFPeer_at _ _ 3 (by decide), MFPeer_at _ _ 4 (by decide), gP_new]
    rfl
end Go.Proofs.YtblappilppfkiaaDoor
namespace Go.Proofs.YtblappilppfkiaaDoor
open Go.RowKit
set_option linter.unusedVariables false
def Bx2 (w : World) (k : Nat) (u0 u1 : Value) : Prop := k < w.heap.size ∧ w.cell? ⟨k, 0, none⟩ = some u0 ∧ w.cell? ⟨k, 1, none⟩ = some u1 ∧ w.frozen? ⟨k, 0, none⟩ = false ∧ w.frozen? ⟨k, 1, none⟩ = false
theorem Bx2.belowB {k B : Nat} {w w' : World} {u0 u1 : Value} (h : Bx2 w k u0 u1) (hw : Below B w w') (hk : k < B) : Bx2 w' k u0 u1 := by
  obtain ⟨h0, h1, h2, f1, f2⟩ := h
  exact ⟨Nat.lt_of_lt_of_le h0 hw.size, by rw [hw.cell (p := ⟨k, 0, none⟩) hk]; exact h1, by rw [hw.cell (p := ⟨k, 1, none⟩) hk]; exact h2, by rw [hw.frozen (p := ⟨k, 0, none⟩) hk]; exact f1, by rw [hw.frozen (p := ⟨k, 1, none⟩) hk]; exact f2⟩
theorem Bx2.below {k : Nat} {w w' : World} {u0 u1 : Value} (h : Bx2 w k u0 u1) (hw : Below w.heap.size w w') : Bx2 w' k u0 u1 := h.belowB hw h.1
theorem Bx2.but {w w' : World} {k q : Nat} {u0 u1 : Value} (h : Bx2 w k u0 u1) (hb : But q w w') (hq : k ≠ q) : Bx2 w' k u0 u1 := by
  obtain ⟨h0, h1, h2, f1, f2⟩ := h
  exact ⟨Nat.lt_of_lt_of_le h0 hb.2.2.2.1, by rw [hb.cell h0 hq]; exact h1, by rw [hb.cell h0 hq]; exact h2, by rw [hb.frozen h0 hq]; exact f1, by rw [hb.frozen h0 hq]; exact f2⟩
theorem Bx2.alloc {k : Nat} {w : World} {u0 u1 : Value} (h : Bx2 w k u0 u1) (o : Obj) : Bx2 (w.alloc o) k u0 u1 := h.below ((Below.refl _ _).alloc (Nat.le_refl _) _)
theorem Bx2.new (w : World) (u0 u1 : Value) (T : TypeId) : Bx2 (w.alloc (.cells #[u0, u1] T)) w.heap.size u0 u1 := ⟨by simp, by simp, by simp, by simp, by simp⟩
theorem Bx2.drew {k : Nat} {w : World} {u0 u1 : Value} (h : Bx2 w k u0 u1) : Bx2 w.drew k u0 u1 := h
theorem Bx2.setO {k j : Nat} {w : World} {u0 u1 : Value} (h : Bx2 w k u0 u1) (hk : j ≠ k) (o : Nat) (u : Value) : Bx2 (w.setCell ⟨j, o, none⟩ u) k u0 u1 := by
  have hne : ∀ q, (⟨j, o, none⟩ : Addr) ≠ ⟨k, q, none⟩ := fun q e => hk (congrArg Addr.block e)
  obtain ⟨h0, h1, h2, f1, f2⟩ := h
  exact ⟨by simpa using h0, by rw [World.cell?_setCell_other _ _ _ _ (hne _)]; exact h1, by rw [World.cell?_setCell_other _ _ _ _ (hne _)]; exact h2, by simpa using f1, by simpa using f2⟩
theorem Bx2.set0 {k : Nat} {w : World} {u0 u1 : Value} (h : Bx2 w k u0 u1) (x : Value) : Bx2 (w.setCell ⟨k, 0, none⟩ x) k x u1 := by
  obtain ⟨h0, h1, h2, f1, f2⟩ := h
  exact ⟨by simpa using h0, World.cell?_setCell_same _ _ _ h1, (World.cell?_setCell_other _ _ _ _ (by simp)).trans h2, by simpa using f1, by simpa using f2⟩
theorem Bx2.set1 {k : Nat} {w : World} {u0 u1 : Value} (h : Bx2 w k u0 u1) (x : Value) : Bx2 (w.setCell ⟨k, 1, none⟩ x) k u0 x := by
  obtain ⟨h0, h1, h2, f1, f2⟩ := h
  exact ⟨by simpa using h0, (World.cell?_setCell_other _ _ _ _ (by simp)).trans h1, World.cell?_setCell_same _ _ _ h2, by simpa using f1, by simpa using f2⟩
theorem Bx2.kept {w w' : World} {q : Option Nat} {k : Nat} {u0 u1 : Value} (h : Bx2 w k u0 u1) (hg : w.grownBy w' q) (hq : some k ≠ q) : Bx2 w' k u0 u1 := by
  obtain ⟨h0, h1, h2, f1, f2⟩ := h
  have cc : ∀ i, w'.cell? ⟨k, i, none⟩ = w.cell? ⟨k, i, none⟩ := fun i => cell_grown hg h0 hq
  have ff : ∀ i, w'.frozen? ⟨k, i, none⟩ = w.frozen? ⟨k, i, none⟩ := fun i => by have := hg.block k h0 hq; simp only [World.frozen?]; rw [this]
  exact ⟨Nat.lt_of_lt_of_le h0 hg.size, by rw [cc]; exact h1, by rw [cc]; exact h2, by rw [ff]; exact f1, by rw [ff]; exact f2⟩
theorem ownS {w : World} {base : Nat} {T : TypeId} {s n c : Nat} {a : Option Addr} {F : Nat → Value} (h : w.ownsRow base T s (.slice a n c) n ((List.range (n * s)).map F)) : SrcC w a (n * s) F := by
  obtain ⟨a', c', e, _, _, q⟩ := ownF_src h
  simp at e
  obtain ⟨rfl, rfl⟩ := e
  exact q
end Go.Proofs.YtblappilppfkiaaDoor
namespace Go.Proofs.YtblappilppfkiaaDoor
open Go.RowKit
set_option linter.unusedVariables false
def szF (x : Int) : Bool := decide (-4000000000000 ≤ x ∧ x ≤ 4000000000000)
def dnF (y : Int) : Bool := decide (1 ≤ y ∧ y ≤ 4000000000000)
def okF (x y : Int) : Bool := szF x && dnF y && ((Int.gcd x y : Int) == 1)
theorem szF_t {x : Int} (h : szF x = true) : -4000000000000 ≤ x ∧ x ≤ 4000000000000 := of_decide_eq_true h
theorem dnF_t {x : Int} (h : dnF x = true) : 1 ≤ x ∧ x ≤ 4000000000000 := of_decide_eq_true h
theorem okF_t {x y : Int} (h : okF x y = true) : (-4000000000000 ≤ x ∧ x ≤ 4000000000000) ∧ (1 ≤ y ∧ y ≤ 4000000000000) ∧ Int.gcd x y = 1 := by
  unfold okF at h
  simp only [Bool.and_eq_true, beq_iff_eq] at h
  exact ⟨szF_t h.1.1, dnF_t h.1.2, by omega⟩
theorem tmod_in {a b : Int} (hb : b ≠ 0) : -(b.natAbs : Int) < a.tmod b ∧ a.tmod b < (b.natAbs : Int) := by
  have := gcd_less (a := a) hb
  omega
set_option maxHeartbeats 2000000 in
theorem l11Gcd_any (a b : Int) (w : World) (ha : -4000000000000 ≤ a ∧ a ≤ 4000000000000) (hb : -4000000000000 ≤ b ∧ b ≤ 4000000000000) :
    Calls Tryd.prog 29 #[.int .i64 a, .int .i64 b] w fun e w' => e = .returned (.int .i64 (Int.gcd a b : Int)) ∧ w = w' := by
  go_enter Tryd.func29, Tryd.ntmps29
  go_wp2_with fail
  go_loopw [0, 1] (fun s0 s1 wr => ∃ x y : Int, s0 = .int .i64 x ∧ s1 = .int .i64 y ∧ (-4000000000000 ≤ x ∧ x ≤ 4000000000000) ∧ (-4000000000000 ≤ y ∧ y ≤ 4000000000000) ∧ Int.gcd x y = Int.gcd a b ∧ w = wr) (fun _ s1 _ => (intOf s1).natAbs)
  case atStart => exact ⟨a, b, rfl, rfl, ha, hb, rfl, rfl⟩
  case round =>
    obtain ⟨x, y, rfl, rfl, hx, hy, hgg, rfl⟩ := hrel
    have HG : Hid (Int.gcd x y = Int.gcd a b) := hgg
    clear hgg
    by_cases h0 : y = 0
    · subst h0
      have hend := gcd_end x
      rw [HG.out] at hend
      have HE : Hid ((Int.gcd a b : Int) = if x < 0 then -x else x) := hend
      clear hend HG
      by_cases hn : x < 0
      · go_wp2_with fail
        go_ret
        exact ⟨by rw [HE.out, if_pos (by omega)]; rfl, rfl⟩
      · have hn' : decide (x < 0) = false := decide_eq_false hn
        go_wp2_with fail
        go_ret
        exact ⟨by rw [HE.out, if_neg (by omega)]; rfl, rfl⟩
    · have h0' : (y != 0) = true := bne_iff_ne.2 h0
      have hm := tmod_in (a := x) h0
      have HS : Hid (Int.gcd y (x.tmod y) = Int.gcd x y) := gcd_step x y
      have HL : Hid ((x.tmod y).natAbs < y.natAbs) := gcd_less h0
      have hyn : -4000000000000 < x.tmod y ∧ x.tmod y < 4000000000000 := by omega
      have hwr : IntKind.i64.wrap (x.tmod y) = x.tmod y := Go.IntWalk.i64_in _ ⟨by omega, by omega⟩
      clear hm
      go_wp2_with fail
      go_roundw
      case rel => exact ⟨y, x.tmod y, rfl, rfl, hy, ⟨by omega, by omega⟩, HS.out.trans HG.out, by first | rfl | trivial⟩
      case measure => exact HL.out
theorem l11Size_any (x : Int) (w : World) : Calls Tryd.prog 28 #[.int .i64 x] w fun e w' => e = .returned (.bool (szF x)) ∧ w = w' := by
  go_enter Tryd.func28, Tryd.ntmps28
  go_wp2_with fail
  refine (l1In_any _ _ _ _).mono ?_
  rintro e w' ⟨rfl, rfl⟩
  have hz : decide (-4000000000000 ≤ x ∧ x ≤ 4000000000000) = szF x := rfl
  rw [hz]
  clear hz
  go_wp2_with fail
  go_ret
  exact ⟨rfl, rfl⟩
set_option maxHeartbeats 2000000 in
theorem specFracOk_any (x y : Int) (w : World) : Calls Tryd.prog 12 #[.agg #[.int .i64 x, .int .i64 y]] w fun e w' => e = .returned (.bool (okF x y)) ∧ Below w.heap.size w w' := by
  have A := Below.nw w (.cells #[.int .i64 x, .int .i64 y] 27)
  have N := Bx2.new w (.int .i64 x) (.int .i64 y) 27
  cases h1 : szF x
  · have e : okF x y = false := by rw [okF, h1]; rfl
    rw [e]
    go_enter Tryd.func12, Tryd.ntmps12
    go_upto_region 1 with fail
    generalize w.alloc (.cells #[.int .i64 x, .int .i64 y] 27) = v at *
    obtain ⟨n0, n1, n2, n3, n4⟩ := N
    go_wp2_with fail
    refine (l11Size_any _ _).mono ?_
    rintro e w' ⟨rfl, rfl⟩
    rw [h1]
    go_wp2_with fail
    go_ret
    exact ⟨rfl, A⟩
  cases h2 : dnF y
  · have e : okF x y = false := by rw [okF, h1, h2]; rfl
    rw [e]
    go_enter Tryd.func12, Tryd.ntmps12
    go_upto_region 1 with fail
    generalize w.alloc (.cells #[.int .i64 x, .int .i64 y] 27) = v at *
    obtain ⟨n0, n1, n2, n3, n4⟩ := N
    go_wp2_with fail
    refine (l11Size_any _ _).mono ?_
    rintro e w' ⟨rfl, rfl⟩
    rw [h1]
    go_wp2_with fail
    refine (l1In_any _ _ _ _).mono ?_
    rintro e w' ⟨rfl, rfl⟩
    have h2' : decide (1 ≤ y ∧ y ≤ 4000000000000) = false := h2
    rw [h2']
    go_wp2_with fail
    go_ret
    exact ⟨rfl, A⟩
  have e : okF x y = ((Int.gcd x y : Int) == 1) := by rw [okF, h1, h2]; rfl
  rw [e]
  have CG := fun w' => l11Gcd_any x y w' (szF_t h1) (by have := dnF_t h2; omega)
  clear e
  go_enter Tryd.func12, Tryd.ntmps12
  go_upto_region 1 with fail
  generalize w.alloc (.cells #[.int .i64 x, .int .i64 y] 27) = v at *
  obtain ⟨n0, n1, n2, n3, n4⟩ := N
  go_wp2_with fail
  refine (l11Size_any _ _).mono ?_
  rintro e w' ⟨rfl, rfl⟩
  rw [h1]
  go_wp2_with fail
  refine (l1In_any _ _ _ _).mono ?_
  rintro e w' ⟨rfl, rfl⟩
  have h2' : decide (1 ≤ y ∧ y ≤ 4000000000000) = true := h2
  rw [h2']
  go_wp2_with fail
  refine (CG _).mono ?_
  rintro e w' ⟨rfl, rfl⟩
  go_wp2_with fail
  go_ret
  exact ⟨rfl, A⟩
end Go.Proofs.YtblappilppfkiaaDoor
namespace Go.Proofs.YtblappilppfkiaaDoor
open Go.RowKit
set_option linter.unusedVariables false
def foB (x y : Int) : Bool := !(y == 0) && szF x && szF y
def foX (x y : Int) : Int := if foB x y = true then foN x y else 0
def foY (x y : Int) : Int := if foB x y = true then foD x y else 0
theorem fo_t {x y : Int} (h : foB x y = true) : foX x y = foN x y ∧ foY x y = foD x y := ⟨if_pos h, if_pos h⟩
theorem fo_f {x y : Int} (h : foB x y = false) : foX x y = 0 ∧ foY x y = 0 := ⟨if_neg (by rw [h]; decide), if_neg (by rw [h]; decide)⟩
theorem td_in {x g : Int} (h : -4000000000000 ≤ x ∧ x ≤ 4000000000000) : -4000000000000 ≤ x.tdiv g ∧ x.tdiv g ≤ 4000000000000 := by
  have h1 : (x.tdiv g).natAbs ≤ x.natAbs := by rw [Int.natAbs_tdiv]; exact Nat.div_le_self _ _
  omega
theorem gcd_in {x y : Int} (h : -4000000000000 ≤ y ∧ y ≤ 4000000000000) (hy : y ≠ 0) : 0 < (Int.gcd x y : Int) ∧ (Int.gcd x y : Int) ≤ 4000000000000 := by
  have h1 := gcd_pos (a := x) hy
  have h2 : Int.gcd x y ≤ y.natAbs := Nat.le_of_dvd (by omega) (Int.gcd_dvd_natAbs_right x y)
  omega
set_option maxHeartbeats 4000000 in
theorem specFracOf_any (x y : Int) (w : World) : Calls Tryd.prog 8 #[.int .i64 x, .int .i64 y] w fun e w' => e = .returned (.tuple #[.agg #[.int .i64 (foX x y), .int .i64 (foY x y)], .bool (foB x y)]) ∧ Below w.heap.size w w' := by
  have A := Below.nw w (.cells #[.int .i64 0, .int .i64 0] 27)
  have N := Bx2.new w (.int .i64 0) (.int .i64 0) 27
  by_cases h0 : y = 0
  · have e : foB x y = false := by rw [foB, h0]; rfl
    rw [(fo_f e).1, (fo_f e).2, e]
    clear e
    have h0' : (y == 0) = true := by simp [h0]
    go_enter Tryd.func8, Tryd.ntmps8
    go_upto_region 1 with fail
    generalize w.alloc (.cells #[.int .i64 0, .int .i64 0] 27) = v at *
    have NN := (N.set0 (.int .i64 0)).set1 (.int .i64 0)
    have AA := (A.setCell (p := ⟨w.heap.size, 0, none⟩) (Nat.le_refl _) (.int .i64 0)).setCell (p := ⟨w.heap.size, 1, none⟩) (Nat.le_refl _) (.int .i64 0)
    obtain ⟨n0, n1, n2, n3, n4⟩ := id N
    subst h0
    go_wp2_with fail
    generalize (v.setCell ⟨w.heap.size, 0, none⟩ (.int .i64 0)).setCell ⟨w.heap.size, 1, none⟩ (.int .i64 0) = u at *
    obtain ⟨q0, q1, q2, q3, q4⟩ := NN
    exact bodyPost_ret (v := (.tuple #[.agg #[.int .i64 0, .int .i64 0], .bool false])) (by simp (maxDischargeDepth := 6) [results, Tryd.results8, go_sem, *]) rfl ⟨rfl, AA⟩
  have h0' : (y == 0) = false := beq_eq_false_iff_ne.2 h0
  cases h1 : szF x
  · have e : foB x y = false := by rw [foB, h1]; simp
    rw [(fo_f e).1, (fo_f e).2, e]
    clear e
    go_enter Tryd.func8, Tryd.ntmps8
    go_upto_region 1 with fail
    generalize w.alloc (.cells #[.int .i64 0, .int .i64 0] 27) = v at *
    have NN := (N.set0 (.int .i64 0)).set1 (.int .i64 0)
    have AA := (A.setCell (p := ⟨w.heap.size, 0, none⟩) (Nat.le_refl _) (.int .i64 0)).setCell (p := ⟨w.heap.size, 1, none⟩) (Nat.le_refl _) (.int .i64 0)
    obtain ⟨n0, n1, n2, n3, n4⟩ := id N
    go_wp2_with fail
    refine (l11Size_any _ _).mono ?_
    rintro e w' ⟨rfl, rfl⟩
    rw [h1]
    go_wp2_with fail
    generalize (v.setCell ⟨w.heap.size, 0, none⟩ (.int .i64 0)).setCell ⟨w.heap.size, 1, none⟩ (.int .i64 0) = u at *
    obtain ⟨q0, q1, q2, q3, q4⟩ := NN
    exact bodyPost_ret (v := (.tuple #[.agg #[.int .i64 0, .int .i64 0], .bool false])) (by simp (maxDischargeDepth := 6) [results, Tryd.results8, go_sem, *]) rfl ⟨rfl, AA⟩
  cases h2 : szF y
  · have e : foB x y = false := by rw [foB, h1, h2]; simp
    rw [(fo_f e).1, (fo_f e).2, e]
    clear e
    go_enter Tryd.func8, Tryd.ntmps8
    go_upto_region 1 with fail
    generalize w.alloc (.cells #[.int .i64 0, .int .i64 0] 27) = v at *
    have NN := (N.set0 (.int .i64 0)).set1 (.int .i64 0)
    have AA := (A.setCell (p := ⟨w.heap.size, 0, none⟩) (Nat.le_refl _) (.int .i64 0)).setCell (p := ⟨w.heap.size, 1, none⟩) (Nat.le_refl _) (.int .i64 0)
    obtain ⟨n0, n1, n2, n3, n4⟩ := id N
    go_wp2_with fail
    refine (l11Size_any _ _).mono ?_
    rintro e w' ⟨rfl, rfl⟩
    rw [h1]
    go_wp2_with fail
    refine (l11Size_any _ _).mono ?_
    rintro e w' ⟨rfl, rfl⟩
    rw [h2]
    go_wp2_with fail
    generalize (v.setCell ⟨w.heap.size, 0, none⟩ (.int .i64 0)).setCell ⟨w.heap.size, 1, none⟩ (.int .i64 0) = u at *
    obtain ⟨q0, q1, q2, q3, q4⟩ := NN
    exact bodyPost_ret (v := (.tuple #[.agg #[.int .i64 0, .int .i64 0], .bool false])) (by simp (maxDischargeDepth := 6) [results, Tryd.results8, go_sem, *]) rfl ⟨rfl, AA⟩
  have e : foB x y = true := by rw [foB, h1, h2, h0']; rfl
  rw [(fo_t e).1, (fo_t e).2, e]
  clear e
  have hx := szF_t h1
  have hy := szF_t h2
  have CG := fun w' => l11Gcd_any x y w' hx hy
  obtain ⟨g0, g1⟩ := gcd_in (x := x) hy h0
  obtain ⟨t1, t2⟩ := td_in (g := foG x y) hx
  obtain ⟨t3, t4⟩ := td_in (g := foG x y) hy
  have HF : Hid (foG x y = if y < 0 then -(Int.gcd x y : Int) else (Int.gcd x y : Int)) := rfl
  have HN : Hid (foN x y = x.tdiv (foG x y) ∧ foD x y = y.tdiv (foG x y)) := ⟨rfl, rfl⟩
  generalize foN x y = fn at *
  generalize foD x y = fd at *
  generalize foG x y = gg at *
  generalize (Int.gcd x y : Int) = gc at *
  obtain ⟨e1, e2⟩ := HN.out
  clear HN
  subst e1 e2
  have hw1 : IntKind.i64.wrap (x.tdiv gg) = x.tdiv gg := Go.IntWalk.i64_in _ ⟨by omega, by omega⟩
  have hw2 : IntKind.i64.wrap (y.tdiv gg) = y.tdiv gg := Go.IntWalk.i64_in _ ⟨by omega, by omega⟩
  by_cases hn : y < 0
  · have eg : gg = -gc := by rw [HF.out, if_pos hn]
    subst eg
    have hgz : ¬ gc = 0 := by omega
    have hgz' : (gc == 0) = false := beq_eq_false_iff_ne.2 hgz
    have hgn : (-gc == 0) = false := beq_eq_false_iff_ne.2 (by omega)
    simp only [Int.tdiv_neg] at t1 t2 t3 t4 hw1 hw2 ⊢
    go_enter Tryd.func8, Tryd.ntmps8
    go_upto_region 1 with fail
    generalize w.alloc (.cells #[.int .i64 0, .int .i64 0] 27) = v at *
    have NN := (N.set0 (.int .i64 (-x.tdiv gc))).set1 (.int .i64 (-y.tdiv gc))
    have AA := ((Below.drew A).setCell (p := ⟨w.heap.size, 0, none⟩) (Nat.le_refl _) (.int .i64 (-x.tdiv gc))).setCell (p := ⟨w.heap.size, 1, none⟩) (Nat.le_refl _) (.int .i64 (-y.tdiv gc))
    obtain ⟨n0, n1, n2, n3, n4⟩ := id N
    go_wp2_with fail
    refine (l11Size_any _ _).mono ?_
    rintro e w' ⟨rfl, rfl⟩
    rw [h1]
    go_wp2_with fail
    refine (l11Size_any _ _).mono ?_
    rintro e w' ⟨rfl, rfl⟩
    rw [h2]
    go_wp2_with fail
    refine (CG _).mono ?_
    rintro e w' ⟨rfl, rfl⟩
    go_upto_region 6 with fail
    refine wp_region_held_drew (S := (fun _ => True)) (by kernel_rfl) ?_ (fun hHeld => ?_)
    · trivial
    refine wpAnyH_take (i := 0) (v := ?_) (by rw [List.getElem?_toArray]; rfl) (by kernel_rfl) (by kernel_rfl) (by kernel_rfl) (by intro _ _ _ h; exact h) (Or.inl ⟨by rfl, ?_⟩) (by assumption) ?_
    rotate_left
    · (intro w hSw; (try dsimp only at hSw); go_simp; all_goals with_reducible rfl)
    (try simp only [Act.put, List.setIfInBounds_toArray, List.set_cons_zero, List.set_cons_succ])
    refine wpAnyH_take (i := 1) (v := ?_) (by rw [List.getElem?_toArray]; rfl) (by kernel_rfl) (by kernel_rfl) (by kernel_rfl) (by intro _ _ _ h; exact h) (Or.inl ⟨by rfl, ?_⟩) (by assumption) ?_
    rotate_left
    · (intro w hSw; (try dsimp only at hSw); go_simp; all_goals with_reducible rfl)
    (try simp only [Act.put, List.setIfInBounds_toArray, List.set_cons_zero, List.set_cons_succ])
    refine wpAnyH_take (i := 2) (v := ?_) (by rw [List.getElem?_toArray]; rfl) (by kernel_rfl) (by kernel_rfl) (by kernel_rfl) (by intro _ _ _ h; exact h) (Or.inl ⟨by rfl, ?_⟩) (by assumption) ?_
    rotate_left
    · (intro w hSw; (try dsimp only at hSw); go_simp; all_goals with_reducible rfl)
    (try simp only [Act.put, List.setIfInBounds_toArray, List.set_cons_zero, List.set_cons_succ])
    refine wpAnyH_take (i := 3) (v := ?_) (by rw [List.getElem?_toArray]; rfl) (by kernel_rfl) (by kernel_rfl) (by kernel_rfl) (by intro _ _ _ h; exact h) (Or.inl ⟨by rfl, ?_⟩) (by assumption) ?_
    rotate_left
    · (intro w hSw; (try dsimp only at hSw); go_simp; all_goals with_reducible rfl)
    (try simp only [Act.put, List.setIfInBounds_toArray, List.set_cons_zero, List.set_cons_succ])
    refine wpAnyH_take (i := 4) (v := ?_) (by rw [List.getElem?_toArray]; rfl) (by kernel_rfl) (by kernel_rfl) (by kernel_rfl) (by intro _ _ _ h; exact h) (Or.inl ⟨by rfl, ?_⟩) (by assumption) ?_
    rotate_left
    · (intro w hSw; (try dsimp only at hSw); go_simp; all_goals with_reducible rfl)
    (try simp only [Act.put, List.setIfInBounds_toArray, List.set_cons_zero, List.set_cons_succ])
    refine wpAnyH_take (i := 5) (v := ?_) (by rw [List.getElem?_toArray]; rfl) (by kernel_rfl) (by kernel_rfl) (by kernel_rfl) (by intro _ _ _ h; exact h) (Or.inl ⟨by rfl, ?_⟩) (by assumption) ?_
    rotate_left
    · (intro w hSw; (try dsimp only at hSw); go_simp; all_goals with_reducible rfl)
    (try simp only [Act.put, List.setIfInBounds_toArray, List.set_cons_zero, List.set_cons_succ])
    refine wpAnyH_take (i := 6) (v := ?_) (by rw [List.getElem?_toArray]; rfl) (by kernel_rfl) (by kernel_rfl) (by kernel_rfl) (by intro _ _ _ h; exact h) (Or.inl ⟨by rfl, ?_⟩) (by assumption) ?_
    rotate_left
    · (intro w hSw; (try dsimp only at hSw); go_simp; all_goals with_reducible rfl)
    (try simp only [Act.put, List.setIfInBounds_toArray, List.set_cons_zero, List.set_cons_succ])
    refine wpAnyH_ready (rs := [7]) (by kernel_rfl) (by simp) ?_
    refine AllReadyH.cons (by rw [List.getElem?_toArray]; rfl) (fun K hK => ?_) AllReadyH.nil
    go_simp
    refine hK.out _ _ ?_ (fun hHeld => ?_)
    · trivial
    clear hK K
    (try simp only [Act.put, List.setIfInBounds_toArray, List.set_cons_zero, List.set_cons_succ])
    refine wpAnyH_take (i := 8) (v := ?_) (by rw [List.getElem?_toArray]; rfl) (by kernel_rfl) (by kernel_rfl) (by kernel_rfl) (by intro _ _ _ h; exact h) (Or.inl ⟨by rfl, ?_⟩) (by assumption) ?_
    rotate_left
    · (intro w hSw; (try dsimp only at hSw); go_simp; all_goals with_reducible rfl)
    (try simp only [Act.put, List.setIfInBounds_toArray, List.set_cons_zero, List.set_cons_succ])
    refine wpAnyH_done (by kernel_rfl) ?_ _
    go_wp2_with fail
    exact bodyPost_ret (v := (.tuple #[.agg #[.int .i64 (-x.tdiv gc), .int .i64 (-y.tdiv gc)], .bool true])) (by simp (maxDischargeDepth := 6) [results, Tryd.results8, go_sem, *]) rfl ⟨rfl, AA⟩
  · have eg : gg = gc := by rw [HF.out, if_neg hn]
    subst eg
    have hgz : ¬ gg = 0 := by omega
    have hgz' : (gg == 0) = false := beq_eq_false_iff_ne.2 hgz
    have hn' : decide (y < 0) = false := decide_eq_false hn
    go_enter Tryd.func8, Tryd.ntmps8
    go_upto_region 1 with fail
    generalize w.alloc (.cells #[.int .i64 0, .int .i64 0] 27) = v at *
    have NN := (N.set0 (.int .i64 (x.tdiv gg))).set1 (.int .i64 (y.tdiv gg))
    have AA := ((Below.drew A).setCell (p := ⟨w.heap.size, 0, none⟩) (Nat.le_refl _) (.int .i64 (x.tdiv gg))).setCell (p := ⟨w.heap.size, 1, none⟩) (Nat.le_refl _) (.int .i64 (y.tdiv gg))
    obtain ⟨n0, n1, n2, n3, n4⟩ := id N
    go_wp2_with fail
    refine (l11Size_any _ _).mono ?_
    rintro e w' ⟨rfl, rfl⟩
    rw [h1]
    go_wp2_with fail
    refine (l11Size_any _ _).mono ?_
    rintro e w' ⟨rfl, rfl⟩
    rw [h2]
    go_wp2_with fail
    refine (CG _).mono ?_
    rintro e w' ⟨rfl, rfl⟩
    go_upto_region 6 with fail
    refine wp_region_held_drew (S := (fun _ => True)) (by kernel_rfl) ?_ (fun hHeld => ?_)
    · trivial
    refine wpAnyH_take (i := 0) (v := ?_) (by rw [List.getElem?_toArray]; rfl) (by kernel_rfl) (by kernel_rfl) (by kernel_rfl) (by intro _ _ _ h; exact h) (Or.inl ⟨by rfl, ?_⟩) (by assumption) ?_
    rotate_left
    · (intro w hSw; (try dsimp only at hSw); go_simp; all_goals with_reducible rfl)
    (try simp only [Act.put, List.setIfInBounds_toArray, List.set_cons_zero, List.set_cons_succ])
    refine wpAnyH_take (i := 1) (v := ?_) (by rw [List.getElem?_toArray]; rfl) (by kernel_rfl) (by kernel_rfl) (by kernel_rfl) (by intro _ _ _ h; exact h) (Or.inl ⟨by rfl, ?_⟩) (by assumption) ?_
    rotate_left
    · (intro w hSw; (try dsimp only at hSw); go_simp; all_goals with_reducible rfl)
    (try simp only [Act.put, List.setIfInBounds_toArray, List.set_cons_zero, List.set_cons_succ])
    refine wpAnyH_take (i := 2) (v := ?_) (by rw [List.getElem?_toArray]; rfl) (by kernel_rfl) (by kernel_rfl) (by kernel_rfl) (by intro _ _ _ h; exact h) (Or.inl ⟨by rfl, ?_⟩) (by assumption) ?_
    rotate_left
    · (intro w hSw; (try dsimp only at hSw); go_simp; all_goals with_reducible rfl)
    (try simp only [Act.put, List.setIfInBounds_toArray, List.set_cons_zero, List.set_cons_succ])
    refine wpAnyH_take (i := 3) (v := ?_) (by rw [List.getElem?_toArray]; rfl) (by kernel_rfl) (by kernel_rfl) (by kernel_rfl) (by intro _ _ _ h; exact h) (Or.inl ⟨by rfl, ?_⟩) (by assumption) ?_
    rotate_left
    · (intro w hSw; (try dsimp only at hSw); go_simp; all_goals with_reducible rfl)
    (try simp only [Act.put, List.setIfInBounds_toArray, List.set_cons_zero, List.set_cons_succ])
    refine wpAnyH_take (i := 4) (v := ?_) (by rw [List.getElem?_toArray]; rfl) (by kernel_rfl) (by kernel_rfl) (by kernel_rfl) (by intro _ _ _ h; exact h) (Or.inl ⟨by rfl, ?_⟩) (by assumption) ?_
    rotate_left
    · (intro w hSw; (try dsimp only at hSw); go_simp; all_goals with_reducible rfl)
    (try simp only [Act.put, List.setIfInBounds_toArray, List.set_cons_zero, List.set_cons_succ])
    refine wpAnyH_take (i := 5) (v := ?_) (by rw [List.getElem?_toArray]; rfl) (by kernel_rfl) (by kernel_rfl) (by kernel_rfl) (by intro _ _ _ h; exact h) (Or.inl ⟨by rfl, ?_⟩) (by assumption) ?_
    rotate_left
    · (intro w hSw; (try dsimp only at hSw); go_simp; all_goals with_reducible rfl)
    (try simp only [Act.put, List.setIfInBounds_toArray, List.set_cons_zero, List.set_cons_succ])
    refine wpAnyH_take (i := 6) (v := ?_) (by rw [List.getElem?_toArray]; rfl) (by kernel_rfl) (by kernel_rfl) (by kernel_rfl) (by intro _ _ _ h; exact h) (Or.inl ⟨by rfl, ?_⟩) (by assumption) ?_
    rotate_left
    · (intro w hSw; (try dsimp only at hSw); go_simp; all_goals with_reducible rfl)
    (try simp only [Act.put, List.setIfInBounds_toArray, List.set_cons_zero, List.set_cons_succ])
    refine wpAnyH_ready (rs := [7]) (by kernel_rfl) (by simp) ?_
    refine AllReadyH.cons (by rw [List.getElem?_toArray]; rfl) (fun K hK => ?_) AllReadyH.nil
    go_simp
    refine hK.out _ _ ?_ (fun hHeld => ?_)
    · trivial
    clear hK K
    (try simp only [Act.put, List.setIfInBounds_toArray, List.set_cons_zero, List.set_cons_succ])
    refine wpAnyH_take (i := 8) (v := ?_) (by rw [List.getElem?_toArray]; rfl) (by kernel_rfl) (by kernel_rfl) (by kernel_rfl) (by intro _ _ _ h; exact h) (Or.inl ⟨by rfl, ?_⟩) (by assumption) ?_
    rotate_left
    · (intro w hSw; (try dsimp only at hSw); go_simp; all_goals with_reducible rfl)
    (try simp only [Act.put, List.setIfInBounds_toArray, List.set_cons_zero, List.set_cons_succ])
    refine wpAnyH_done (by kernel_rfl) ?_ _
    go_wp2_with fail
    exact bodyPost_ret (v := (.tuple #[.agg #[.int .i64 (x.tdiv gg), .int .i64 (y.tdiv gg)], .bool true])) (by simp (maxDischargeDepth := 6) [results, Tryd.results8, go_sem, *]) rfl ⟨rfl, AA⟩
theorem left_bd {a b : Int} (hb : 0 < b) (ha : -4000000000000 ≤ a ∧ a ≤ 4000000000000) (hb2 : b ≤ 4000000000000) : -8000000000000 ≤ a / b * b ∧ a / b * b ≤ 4000000000000 := by
  have := left_in (a := a) hb
  omega
end Go.Proofs.YtblappilppfkiaaDoor
namespace Go.Proofs.YtblappilppfkiaaDoor
open Go.RowKit
set_option linter.unusedVariables false
def fcI (a b p q : Int) : Int := if (okF a b && okF p q) = true then cmpF a b p q else 0
theorem fcI_t {a b p q : Int} (h1 : okF a b = true) (h2 : okF p q = true) : fcI a b p q = cmpF a b p q := if_pos (by rw [h1, h2]; rfl)
theorem fcI_1 {a b p q : Int} (h1 : okF a b = false) : fcI a b p q = 0 := if_neg (by rw [h1]; simp)
theorem fcI_2 {a b p q : Int} (h2 : okF p q = false) : fcI a b p q = 0 := if_neg (by rw [h2]; simp)
end Go.Proofs.YtblappilppfkiaaDoor
namespace Go.Proofs.YtblappilppfkiaaDoor
open Go.RowKit
set_option linter.unusedVariables false
theorem two_in {w wr : World} {B j k : Nat} (h : Below B w wr) (hj : B ≤ j) (hk : B ≤ k) (x y z u : Value) : Below B w ((((wr.setCell ⟨j, 0, none⟩ x).setCell ⟨j, 1, none⟩ y).setCell ⟨k, 0, none⟩ z).setCell ⟨k, 1, none⟩ u) := (((h.setCell (p := ⟨j, 0, none⟩) hj x).setCell (p := ⟨j, 1, none⟩) hj y).setCell (p := ⟨k, 0, none⟩) hk z).setCell (p := ⟨k, 1, none⟩) hk u
def rdX (n d : Int) : Int := if okD n d = true then foX d (d + n) else 0
def rdY (n d : Int) : Int := if okD n d = true then foY d (d + n) else 0
def rdZ (n d : Int) : Int := if okD n d = true then foX d (d - n) else 0
def rdU (n d : Int) : Int := if okD n d = true then foY d (d - n) else 0
theorem rd_t {n d : Int} (h : okD n d = true) : rdX n d = foX d (d + n) ∧ rdY n d = foY d (d + n) ∧ rdZ n d = foX d (d - n) ∧ rdU n d = foY d (d - n) := ⟨if_pos h, if_pos h, if_pos h, if_pos h⟩
theorem rd_f {n d : Int} (h : okD n d = false) : rdX n d = 0 ∧ rdY n d = 0 ∧ rdZ n d = 0 ∧ rdU n d = 0 := by
  have h' : ¬ okD n d = true := by rw [h]; decide
  exact ⟨if_neg h', if_neg h', if_neg h', if_neg h'⟩
end Go.Proofs.YtblappilppfkiaaDoor
namespace Go.Proofs.YtblappilppfkiaaDoor
open Go.RowKit
set_option linter.unusedVariables false
def roB (al ah ca bl bh cb : Int) : Bool := okI al ah && okI bl bh && decide (0 ≤ ca ∧ ca < cb ∧ cb ≤ 1000000000000 ∧ al ≤ bh)
def roX (al ah ca bl bh cb : Int) : Int := if roB al ah ca bl bh cb = true then foX (imx 0 (bl - ah)) (cb - ca) else 0
def roY (al ah ca bl bh cb : Int) : Int := if roB al ah ca bl bh cb = true then foY (imx 0 (bl - ah)) (cb - ca) else 0
def roZ (al ah ca bl bh cb : Int) : Int := if roB al ah ca bl bh cb = true then foX (bh - al) (cb - ca) else 0
def roU (al ah ca bl bh cb : Int) : Int := if roB al ah ca bl bh cb = true then foY (bh - al) (cb - ca) else 0
theorem ro_t {al ah ca bl bh cb : Int} (h : roB al ah ca bl bh cb = true) : roX al ah ca bl bh cb = foX (imx 0 (bl - ah)) (cb - ca) ∧ roY al ah ca bl bh cb = foY (imx 0 (bl - ah)) (cb - ca) ∧ roZ al ah ca bl bh cb = foX (bh - al) (cb - ca) ∧ roU al ah ca bl bh cb = foY (bh - al) (cb - ca) := ⟨if_pos h, if_pos h, if_pos h, if_pos h⟩
theorem ro_f {al ah ca bl bh cb : Int} (h : roB al ah ca bl bh cb = false) : roX al ah ca bl bh cb = 0 ∧ roY al ah ca bl bh cb = 0 ∧ roZ al ah ca bl bh cb = 0 ∧ roU al ah ca bl bh cb = 0 := by
  have h' : ¬ roB al ah ca bl bh cb = true := by rw [h]; decide
  exact ⟨if_neg h', if_neg h', if_neg h', if_neg h'⟩
end Go.Proofs.YtblappilppfkiaaDoor
namespace Go.Proofs.YtblappilppfkiaaDoor
open Go.RowKit
set_option linter.unusedVariables false
theorem two_but (w : World) (j : Nat) (a b : Value) : But j w ((w.setCell ⟨j, 0, none⟩ a).setCell ⟨j, 1, none⟩ b) := ((But.refl j w).setCell 0 a).setCell 1 b
theorem Bx2.two {w : World} {j : Nat} {u v : Value} (h : Bx2 w j u v) (a b : Value) : Bx2 ((w.setCell ⟨j, 0, none⟩ a).setCell ⟨j, 1, none⟩ b) j a b := (h.set0 a).set1 b
/- What two rates have in common: the greater of the first ones, the lesser of the others. -/
def mtP (a b c d e f g h : Int) : Bool := okF a b && okF c d && okF e f && okF g h
def mlX (a b e f : Int) : Int := if 0 < fcI e f a b then e else a
def mlY (a b e f : Int) : Int := if 0 < fcI e f a b then f else b
def mhX (c d g h : Int) : Int := if fcI g h c d < 0 then g else c
def mhY (c d g h : Int) : Int := if fcI g h c d < 0 then h else d
def mtB (a b c d e f g h : Int) : Bool := mtP a b c d e f g h && !decide (0 < fcI (mlX a b e f) (mlY a b e f) (mhX c d g h) (mhY c d g h))
def mtV (t : Bool) (x : Int) : Int := if t = true then x else 0
end Go.Proofs.YtblappilppfkiaaDoor
namespace Go.Proofs.YtblappilppfkiaaDoor
open Go.RowKit
set_option linter.unusedVariables false
/- Whether what two rates have in common is nothing. -/
def brB (n d al ah ca bl bh cb : Int) : Bool := roB al ah ca bl bh cb && okD n d && !mtB (roX al ah ca bl bh cb) (roY al ah ca bl bh cb) (roZ al ah ca bl bh cb) (roU al ah ca bl bh cb) (rdX n d) (rdY n d) (rdZ n d) (rdU n d)
end Go.Proofs.YtblappilppfkiaaDoor
namespace Go.Proofs.YtblappilppfkiaaDoor
open Go.RowKit
set_option linter.unusedVariables false
/- The sign, by cases, as the comparisons tell it. -/
theorem cmpInt_any (x y : Int) (w : World) : Calls Tryd.prog 71 #[.int .i64 x, .int .i64 y] w fun e w' => e = .returned (.int .i64 (sgn (x - y))) ∧ w = w' := by
  have n1 : (x != x) = false := by simp
  have n2 : (y != y) = false := by simp
  rcases Int.lt_trichotomy x y with h | h | h
  · rw [sgn_neg (by omega)]
    go_enter Tryd.func71, Tryd.ntmps71
    go_wp2
    go_ret
    exact ⟨rfl, rfl⟩
  · rw [sgn_zero (by omega)]
    have h1 : decide (x < y) = false := decide_eq_false (by omega)
    have h2 : decide (x > y) = false := decide_eq_false (by omega)
    have h3 : decide (y < x) = false := decide_eq_false (by omega)
    clear h
    go_enter Tryd.func71, Tryd.ntmps71
    go_wp2
    go_ret
    exact ⟨rfl, rfl⟩
  · rw [sgn_pos (by omega)]
    have h1 : decide (x < y) = false := decide_eq_false (by omega)
    go_enter Tryd.func71, Tryd.ntmps71
    go_wp2
    go_ret
    exact ⟨rfl, rfl⟩
theorem cmpU_any (x y : Int) (w : World) : Calls Tryd.prog 74 #[.int .u64 x, .int .u64 y] w fun e w' => e = .returned (.int .i64 (sgn (x - y))) ∧ w = w' := by
  have n1 : (x != x) = false := by simp
  have n2 : (y != y) = false := by simp
  rcases Int.lt_trichotomy x y with h | h | h
  · rw [sgn_neg (by omega)]
    go_enter Tryd.func74, Tryd.ntmps74
    go_wp2
    go_ret
    exact ⟨rfl, rfl⟩
  · rw [sgn_zero (by omega)]
    have h1 : decide (x < y) = false := decide_eq_false (by omega)
    have h2 : decide (x > y) = false := decide_eq_false (by omega)
    have h3 : decide (y < x) = false := decide_eq_false (by omega)
    clear h
    go_enter Tryd.func74, Tryd.ntmps74
    go_wp2
    go_ret
    exact ⟨rfl, rfl⟩
  · rw [sgn_pos (by omega)]
    have h1 : decide (x < y) = false := decide_eq_false (by omega)
    go_enter Tryd.func74, Tryd.ntmps74
    go_wp2
    go_ret
    exact ⟨rfl, rfl⟩
def orI (a b : Int) : Int := if a = 0 then b else a
theorem orI_0 (b : Int) : orI 0 b = b := if_pos rfl
theorem orI_n {a : Int} (b : Int) (h : a ≠ 0) : orI a b = a := if_neg h
set_option maxHeartbeats 2000000 in
theorem cmpOr_any (k : Nat) (x y : Int) (w : World) (h0 : w.cell? ⟨k, 0, none⟩ = some (.int .i64 x)) (h1 : w.cell? ⟨k, 1, none⟩ = some (.int .i64 y)) : Calls Tryd.prog 73 #[.slice (some ⟨k, 0, none⟩) 2 2] w fun e w' => e = .returned (.int .i64 (orI x y)) ∧ w = w' := by
  by_cases hx : x = 0
  · subst hx
    rw [orI_0]
    by_cases hy : y = 0
    · subst hy
      go_enter Tryd.func73, Tryd.ntmps73
      go_wp2
      go_rounds 3
      all_goals (try go_ret)
      all_goals exact ⟨rfl, rfl⟩
    · have hy' : (y != 0) = true := bne_iff_ne.2 hy
      go_enter Tryd.func73, Tryd.ntmps73
      go_wp2
      go_rounds 3
      all_goals (try go_ret)
      all_goals exact ⟨rfl, rfl⟩
  · rw [orI_n _ hx]
    have hx' : (x != 0) = true := bne_iff_ne.2 hx
    go_enter Tryd.func73, Tryd.ntmps73
    go_wp2
    go_rounds 3
    all_goals (try go_ret)
    all_goals exact ⟨rfl, rfl⟩
/- The product of 128 bits: the walk's numbers are told by the library's own law of the halves. -/
theorem maskU (a : Nat) (ha : a < 18446744073709551616) : bits .and .u64 (a : Int) 4294967295 = ((a % 4294967296 : Nat) : Int) := by
  have h := bits_and_u64_nat a 4294967295 ha (by omega)
  have e : a &&& 4294967295 = a % 4294967296 := Nat.and_two_pow_sub_one_eq_mod a 32
  rw [e] at h
  exact h
theorem divU (a : Nat) : (a : Int) / 4294967296 = ((a / 4294967296 : Nat) : Int) := by omega
theorem mulU (a b : Nat) : (a : Int) * (b : Int) = ((a * b : Nat) : Int) := (Int.natCast_mul a b).symm
theorem addU (a b : Nat) : (a : Int) + (b : Int) = ((a + b : Nat) : Int) := (Int.natCast_add a b).symm
theorem wrapU (a : Nat) (ha : a < 18446744073709551616) : IntKind.u64.wrap (a : Int) = (a : Int) := by rw [IntKind.wrap_u64]; omega
theorem wrapV (a : Nat) : IntKind.u64.wrap (a : Int) = ((a % 18446744073709551616 : Nat) : Int) := by rw [IntKind.wrap_u64]; omega
set_option maxHeartbeats 2000000 in
theorem mul64_any (x y : Nat) (hx : x < 18446744073709551616) (hy : y < 18446744073709551616) (w : World) :
    Calls Tryd.prog 72 #[.int .u64 x, .int .u64 y] w fun e w' => e = .returned (.tuple #[.int .u64 ((x * y / 18446744073709551616 : Nat) : Int), .int .u64 ((x * y % 18446744073709551616 : Nat) : Int)]) ∧ w = w' := by
  obtain ⟨bd, bt, bw, hhi⟩ := Lib.mul64_hi x y hx hy
  have ba := Lib.half_mul_le (a := x / 4294967296) (b := y / 4294967296) (by omega) (by omega)
  have bb := Lib.half_mul_le (a := x / 4294967296) (b := y % 4294967296) (by omega) (by omega)
  have bc := Lib.half_mul_le (a := x % 4294967296) (b := y / 4294967296) (by omega) (by omega)
  have ba' : x / 4294967296 * (y / 4294967296) < 18446744073709551616 := by omega
  have bb' : x / 4294967296 * (y % 4294967296) < 18446744073709551616 := by omega
  have bc' : x % 4294967296 * (y / 4294967296) < 18446744073709551616 := by omega
  have bh1 : x / 4294967296 * (y / 4294967296) + (x / 4294967296 * (y % 4294967296) + x % 4294967296 * (y % 4294967296) / 4294967296) / 4294967296 < 18446744073709551616 := by omega
  have bh : x / 4294967296 * (y / 4294967296) + (x / 4294967296 * (y % 4294967296) + x % 4294967296 * (y % 4294967296) / 4294967296) / 4294967296 + ((x / 4294967296 * (y % 4294967296) + x % 4294967296 * (y % 4294967296) / 4294967296) % 4294967296 + x % 4294967296 * (y / 4294967296)) / 4294967296 < 18446744073709551616 := by omega
  go_enter Tryd.func72, Tryd.ntmps72
  go_wp2
  simp only [maskU x hx, maskU y hy, divU, mulU, addU, wrapU _ bd, wrapU _ bb', wrapU _ bt, maskU _ bt, wrapU _ bc', wrapU _ bw, wrapU _ ba', wrapU _ bh1, wrapU _ bh, wrapV (x * y)]
  rw [hhi]
  go_ret2
  exact ⟨rfl, rfl⟩
end Go.Proofs.YtblappilppfkiaaDoor
namespace Go.Proofs.YtblappilppfkiaaDoor
open Go.RowKit
set_option linter.unusedVariables false
theorem below_drewN {B : Nat} {w wr : World} (h : Below B w wr) (n : Nat) : Below B w (wr.drewN n) := ⟨h.os, h.tape, h.output, h.size, h.block⟩
theorem isPart_any (x : Int) (w : World) : Calls Tryd.prog 50 #[.int .i64 x] w fun e w' => e = .returned (.bool (szF x)) ∧ w = w' := by
  by_cases h1 : -4000000000000 ≤ x
  · by_cases h2 : x ≤ 4000000000000
    · rw [show szF x = true from decide_eq_true ⟨h1, h2⟩]
      go_enter Tryd.func50, Tryd.ntmps50
      go_wp2
      go_ret
      exact ⟨rfl, rfl⟩
    · rw [show szF x = false from decide_eq_false fun h => h2 h.2]
      have h2' : decide (x ≤ 4000000000000) = false := decide_eq_false h2
      go_enter Tryd.func50, Tryd.ntmps50
      go_wp2
      go_ret
      exact ⟨rfl, rfl⟩
  · rw [show szF x = false from decide_eq_false fun h => h1 h.1]
    have h1' : decide (-4000000000000 ≤ x) = false := decide_eq_false h1
    go_enter Tryd.func50, Tryd.ntmps50
    go_wp2
    go_ret
    exact ⟨rfl, rfl⟩
theorem com_neg {x a b : Int} (h : Int.gcd x 0 = Int.gcd a b) : (b < 0 → (if x < 0 then x else -x) = foG a b) ∧ (¬ b < 0 → (if x < 0 then -x else x) = foG a b) := by
  have e := gcd_end x
  rw [h] at e
  refine ⟨fun hb => ?_, fun hb => ?_⟩
  · rw [foG, if_pos hb, e]
    split <;> omega
  · rw [foG, if_neg hb, e]
set_option maxHeartbeats 2000000 in
theorem inCommon_any (a b : Int) (w : World) (ha : -4000000000000 ≤ a ∧ a ≤ 4000000000000) (hb : -4000000000000 ≤ b ∧ b ≤ 4000000000000) :
    Calls Tryd.prog 51 #[.int .i64 a, .int .i64 b] w fun e w' => e = .returned (.int .i64 (foG a b)) ∧ Below w.heap.size w w' := by
  go_enter Tryd.func51, Tryd.ntmps51
  go_wp2_with fail
  go_loopw [5, 6] (fun s0 s1 wr => ∃ x y : Int, s0 = .int .i64 x ∧ s1 = .int .i64 y ∧ (-4000000000000 ≤ x ∧ x ≤ 4000000000000) ∧ (-4000000000000 ≤ y ∧ y ≤ 4000000000000) ∧ Int.gcd x y = Int.gcd a b ∧ Below w.heap.size w wr) (fun _ s1 _ => (intOf s1).natAbs)
  case atStart => exact ⟨a, b, rfl, rfl, ha, hb, rfl, Below.refl _ _⟩
  case round =>
    obtain ⟨x, y, rfl, rfl, hx, hy, hgg, BB⟩ := hrel
    have HG : Hid (Int.gcd x y = Int.gcd a b) := hgg
    clear hgg
    by_cases h0 : y = 0
    · subst h0
      obtain ⟨c1, c2⟩ := com_neg HG.out
      have H1 : Hid (b < 0 → (if x < 0 then x else -x) = foG a b) := c1
      have H2 : Hid (¬ b < 0 → (if x < 0 then -x else x) = foG a b) := c2
      clear c1 c2 HG
      by_cases hn : x < 0
      · by_cases hd : b < 0
        · have HR : Hid (x = foG a b) := by rw [Hid, ← H1.out hd, if_pos hn]
          clear H1 H2
          go_wp2_with fail
          go_ret
          exact ⟨by rw [← HR.out]; rfl, BB⟩
        · have HR : Hid (-x = foG a b) := by rw [Hid, ← H2.out hd, if_pos hn]
          clear H1 H2
          have hd' : decide (b < 0) = false := decide_eq_false hd
          go_wp2_with fail
          go_ret
          exact ⟨by rw [← HR.out]; rfl, BB⟩
      · have hn' : decide (x < 0) = false := decide_eq_false hn
        by_cases hd : b < 0
        · have HR : Hid (-x = foG a b) := by rw [Hid, ← H1.out hd, if_neg hn]
          clear H1 H2
          go_wp2_with fail
          go_ret
          exact ⟨by rw [← HR.out]; rfl, BB⟩
        · have HR : Hid (x = foG a b) := by rw [Hid, ← H2.out hd, if_neg hn]
          clear H1 H2
          have hd' : decide (b < 0) = false := decide_eq_false hd
          go_wp2_with fail
          go_ret
          exact ⟨by rw [← HR.out]; rfl, BB⟩
    · have h0' : (y != 0) = true := bne_iff_ne.2 h0
      have h0'' : (y == 0) = false := beq_eq_false_iff_ne.2 h0
      have hm := tmod_in (a := x) h0
      have HS : Hid (Int.gcd y (x.tmod y) = Int.gcd x y) := gcd_step x y
      have HL : Hid ((x.tmod y).natAbs < y.natAbs) := gcd_less h0
      have hyn : -4000000000000 < x.tmod y ∧ x.tmod y < 4000000000000 := by omega
      have hwr : IntKind.i64.wrap (x.tmod y) = x.tmod y := Go.IntWalk.i64_in _ ⟨by omega, by omega⟩
      clear hm
      go_wp2_with fail
      go_quiet (fail)
      go_wp2_with fail
      go_roundw
      case rel => exact ⟨y, x.tmod y, rfl, rfl, hy, ⟨by omega, by omega⟩, HS.out.trans HG.out, below_drewN BB nq⟩
      case measure => exact HL.out
theorem dv_neg {x n : Int} (h : 0 < n) (hm : x.tmod n < 0) : x / n = x.tdiv n - 1 ∧ x % n = x.tmod n + n := by
  have e := tdown x n h hm
  refine ⟨e, ?_⟩
  have h1 := Int.mul_ediv_add_emod x n
  have h2 := Int.mul_tdiv_add_tmod x n
  rw [e, Int.mul_sub] at h1
  omega
theorem dv_pos {x n : Int} (h : 0 < n) (hm : 0 ≤ x.tmod n) : x / n = x.tdiv n ∧ x % n = x.tmod n := by
  have e := tdown' x n h hm
  refine ⟨e, ?_⟩
  have h1 := Int.mul_ediv_add_emod x n
  have h2 := Int.mul_tdiv_add_tmod x n
  rw [e] at h1
  omega
set_option maxHeartbeats 2000000 in
theorem divided_any (x n : Int) (w : World) (h1 : -4000000000000000000 ≤ x) (h2 : x ≤ 4000000000000000000) (hn : 0 < n) (hn2 : n ≤ 4000000000000) :
    Calls Tryd.prog 66 #[.int .i64 x, .int .i64 n] w fun e w' => e = .returned (.tuple #[.int .i64 (x / n), .int .i64 (x % n)]) ∧ Below w.heap.size w w' := by
  have hz : ¬ n = 0 := by omega
  have h0' : (n != 0) = true := bne_iff_ne.2 hz
  have h0'' : (n == 0) = false := beq_eq_false_iff_ne.2 hz
  have hm := tmod_in (a := x) hz
  have hna : (n.natAbs : Int) = n := by omega
  rw [hna] at hm
  have hq : (x.tdiv n).natAbs ≤ x.natAbs := by rw [Int.natAbs_tdiv]; exact Nat.div_le_self _ _
  have hq1 : -4000000000000000000 ≤ x.tdiv n ∧ x.tdiv n ≤ 4000000000000000000 := by omega
  have hw1 : IntKind.i64.wrap (x.tdiv n) = x.tdiv n := Go.IntWalk.i64_in _ ⟨by omega, by omega⟩
  have hw2 : IntKind.i64.wrap (x.tmod n) = x.tmod n := Go.IntWalk.i64_in _ ⟨by omega, by omega⟩
  have hw3 : wrap64 (x.tdiv n - 1) = x.tdiv n - 1 := Go.IntWalk.wrap64_in _ ⟨by omega, by omega⟩
  clear hna hq
  by_cases hs : x.tmod n < 0
  · have hw4 : wrap64 (x.tmod n + n) = x.tmod n + n := Go.IntWalk.wrap64_in _ ⟨by omega, by omega⟩
    obtain ⟨e1, e2⟩ := dv_neg hn hs
    rw [e1, e2]
    clear e1 e2
    go_enter Tryd.func66, Tryd.ntmps66
    go_wp2_with fail
    go_quiet (fail)
    go_wp2_with fail
    go_ret2
    exact ⟨rfl, below_drewN (Below.refl _ _) nq⟩
  · obtain ⟨e1, e2⟩ := dv_pos hn (Int.not_lt.1 hs)
    rw [e1, e2]
    clear e1 e2
    have hs' : decide (x.tmod n < 0) = false := decide_eq_false hs
    go_enter Tryd.func66, Tryd.ntmps66
    go_wp2_with fail
    go_quiet (fail)
    go_wp2_with fail
    go_ret2
    exact ⟨rfl, below_drewN (Below.refl _ _) nq⟩
end Go.Proofs.YtblappilppfkiaaDoor
namespace Go.Proofs.YtblappilppfkiaaDoor
open Go.RowKit
set_option linter.unusedVariables false
/- Products of 128 bits of numbers that are not below 0. -/
theorem mulI_any (x y : Int) (h1 : 0 ≤ x) (h2 : x ≤ 4000000000000) (h3 : 0 ≤ y) (h4 : y ≤ 4000000000000) (w : World) :
    Calls Tryd.prog 72 #[.int .u64 x, .int .u64 y] w fun e w' => e = .returned (.tuple #[.int .u64 (x * y / 18446744073709551616), .int .u64 (x * y % 18446744073709551616)]) ∧ w = w' := by
  obtain ⟨X, rfl⟩ := Int.eq_ofNat_of_zero_le h1
  obtain ⟨Y, rfl⟩ := Int.eq_ofNat_of_zero_le h3
  have h := mul64_any X Y (by omega) (by omega) w
  have e1 : ((X * Y / 18446744073709551616 : Nat) : Int) = (X : Int) * (Y : Int) / 18446744073709551616 := by rw [Int.natCast_ediv, Int.natCast_mul]; rfl
  have e2 : ((X * Y % 18446744073709551616 : Nat) : Int) = (X : Int) * (Y : Int) % 18446744073709551616 := by rw [Int.natCast_emod, Int.natCast_mul]; rfl
  rw [e1, e2] at h
  exact h
theorem or_cmp (x y : Int) : orI (sgn (x / 18446744073709551616 - y / 18446744073709551616)) (sgn (x % 18446744073709551616 - y % 18446744073709551616)) = sgn (x - y) := by
  rcases Int.lt_trichotomy (x / 18446744073709551616) (y / 18446744073709551616) with h | h | h
  · rw [sgn_neg (show x / 18446744073709551616 - y / 18446744073709551616 < 0 by omega), orI_n _ (by decide), sgn_neg (by omega)]
  · rw [sgn_zero (show x / 18446744073709551616 - y / 18446744073709551616 = 0 by omega), orI_0]
    congr 1
    omega
  · rw [sgn_pos (show 0 < x / 18446744073709551616 - y / 18446744073709551616 by omega), orI_n _ (by decide), sgn_pos (by omega)]
set_option maxHeartbeats 4000000 in
theorem byWhole_any (a b p q : Int) (w : World) (ha : -4000000000000 ≤ a ∧ a ≤ 4000000000000) (hb : 1 ≤ b ∧ b ≤ 4000000000000) (hp : -4000000000000 ≤ p ∧ p ≤ 4000000000000) (hq : 1 ≤ q ∧ q ≤ 4000000000000) : Calls Tryd.prog 54 #[.agg #[.int .i64 a, .int .i64 b], .agg #[.int .i64 p, .int .i64 q]] w fun e w' => e = .returned (.int .i64 (sgn (a / b - p / q))) ∧ Below w.heap.size w w' := by
  have A := Below.nw w (.cells #[.int .i64 a, .int .i64 b] 27); have A2 := Below.nw (w.alloc (.cells #[.int .i64 a, .int .i64 b] 27)) (.cells #[.int .i64 p, .int .i64 q] 27); have N := (Bx2.new w (.int .i64 a) (.int .i64 b) 27).below A2; have Q := Bx2.new (w.alloc (.cells #[.int .i64 a, .int .i64 b] 27)) (.int .i64 p) (.int .i64 q) 27; simp only [World.size_alloc] at Q; have B := A.trans (A2.mono A.size); clear A A2
  have D1 := fun w' => divided_any a b w' (by omega) (by omega) (by omega) (by omega)
  have D2 := fun w' => divided_any p q w' (by omega) (by omega) (by omega) (by omega)
  generalize a / b = x at *
  generalize p / q = y at *
  go_enter Tryd.func54, Tryd.ntmps54
  go_upto_region 1 with fail
  generalize (w.alloc (.cells #[.int .i64 a, .int .i64 b] 27)).alloc (.cells #[.int .i64 p, .int .i64 q] 27) = v at *
  obtain ⟨n0, n1, n2, n3, n4⟩ := id N; obtain ⟨m0, m1, m2, m3, m4⟩ := id Q
  go_wp2_with fail
  refine (D1 _).mono ?_
  rintro e v2 ⟨rfl, hbl⟩
  clear n0 n1 n2 n3 n4 m0 m1 m2 m3 m4
  replace N := N.below hbl; replace Q := Q.below hbl; replace B := B.trans (hbl.mono B.size); clear hbl
  obtain ⟨n0, n1, n2, n3, n4⟩ := id N; obtain ⟨m0, m1, m2, m3, m4⟩ := id Q
  go_wp2_with fail
  refine (D2 _).mono ?_
  rintro e v3 ⟨rfl, hbl⟩
  clear n0 n1 n2 n3 n4 m0 m1 m2 m3 m4
  replace N := N.below hbl; replace Q := Q.below hbl; replace B := B.trans (hbl.mono B.size); clear hbl
  go_wp2_with fail
  refine (cmpInt_any _ _ _).mono ?_
  rintro e w' ⟨rfl, rfl⟩
  go_wp2_with fail
  go_ret
  exact ⟨rfl, B⟩
theorem rest_in {a b : Int} (hb : 1 ≤ b ∧ b ≤ 4000000000000) : 0 ≤ a % b ∧ a % b ≤ 4000000000000 := by
  have h1 := Int.emod_nonneg a (b := b) (by omega)
  have h2 := Int.emod_lt_of_pos a (b := b) (by omega)
  omega
theorem wrap_u {x : Int} (h : 0 ≤ x ∧ x ≤ 4000000000000) : IntKind.u64.wrap x = x := by rw [IntKind.wrap_u64]; omega
set_option maxHeartbeats 4000000 in
theorem byRest_any (a b p q : Int) (w : World) (ha : -4000000000000 ≤ a ∧ a ≤ 4000000000000) (hb : 1 ≤ b ∧ b ≤ 4000000000000) (hp : -4000000000000 ≤ p ∧ p ≤ 4000000000000) (hq : 1 ≤ q ∧ q ≤ 4000000000000) : Calls Tryd.prog 55 #[.agg #[.int .i64 a, .int .i64 b], .agg #[.int .i64 p, .int .i64 q]] w fun e w' => e = .returned (.int .i64 (sgn (a % b * q - p % q * b))) ∧ Below w.heap.size w w' := by
  have A := Below.nw w (.cells #[.int .i64 a, .int .i64 b] 27); have A2 := Below.nw (w.alloc (.cells #[.int .i64 a, .int .i64 b] 27)) (.cells #[.int .i64 p, .int .i64 q] 27); have N := (Bx2.new w (.int .i64 a) (.int .i64 b) 27).below A2; have Q := Bx2.new (w.alloc (.cells #[.int .i64 a, .int .i64 b] 27)) (.int .i64 p) (.int .i64 q) 27; simp only [World.size_alloc] at Q; have B := A.trans (A2.mono A.size); clear A A2
  have D1 := fun w' => divided_any a b w' (by omega) (by omega) (by omega) (by omega)
  have D2 := fun w' => divided_any p q w' (by omega) (by omega) (by omega) (by omega)
  have r1 := rest_in (a := a) hb
  have r2 := rest_in (a := p) hq
  have u1 := wrap_u r1
  have u2 := wrap_u r2
  have u3 := wrap_u (x := b) ⟨by omega, by omega⟩
  have u4 := wrap_u (x := q) ⟨by omega, by omega⟩
  have M1 := fun w' => mulI_any (a % b) q r1.1 r1.2 (by omega) (by omega) w'
  have M2 := fun w' => mulI_any (p % q) b r2.1 r2.2 (by omega) (by omega) w'
  rw [← or_cmp]
  generalize a / b = x at *
  generalize p / q = y at *
  generalize a % b = r at *
  generalize p % q = s at *
  generalize r * q / 18446744073709551616 = h1 at *
  generalize r * q % 18446744073709551616 = l1 at *
  generalize s * b / 18446744073709551616 = h2 at *
  generalize s * b % 18446744073709551616 = l2 at *
  have c1 := fun w' => cmpU_any h1 h2 w'
  have c2 := fun w' => cmpU_any l1 l2 w'
  generalize sgn (h1 - h2) = s1 at *
  generalize sgn (l1 - l2) = s2 at *
  go_enter Tryd.func55, Tryd.ntmps55
  go_upto_region 1 with fail
  generalize (w.alloc (.cells #[.int .i64 a, .int .i64 b] 27)).alloc (.cells #[.int .i64 p, .int .i64 q] 27) = v at *
  obtain ⟨n0, n1, n2, n3, n4⟩ := id N; obtain ⟨m0, m1, m2, m3, m4⟩ := id Q
  go_wp2_with fail
  refine (D1 _).mono ?_
  rintro e v2 ⟨rfl, hbl⟩
  clear n0 n1 n2 n3 n4 m0 m1 m2 m3 m4
  replace N := N.below hbl; replace Q := Q.below hbl; replace B := B.trans (hbl.mono B.size); clear hbl
  obtain ⟨n0, n1, n2, n3, n4⟩ := id N; obtain ⟨m0, m1, m2, m3, m4⟩ := id Q
  go_wp2_with fail
  refine (D2 _).mono ?_
  rintro e v3 ⟨rfl, hbl⟩
  clear n0 n1 n2 n3 n4 m0 m1 m2 m3 m4
  replace N := N.below hbl; replace Q := Q.below hbl; replace B := B.trans (hbl.mono B.size); clear hbl
  obtain ⟨n0, n1, n2, n3, n4⟩ := id N; obtain ⟨m0, m1, m2, m3, m4⟩ := id Q
  go_wp2_with fail
  refine (M1 _).mono ?_
  rintro e w' ⟨rfl, rfl⟩
  go_wp2_with fail
  refine (M2 _).mono ?_
  rintro e w' ⟨rfl, rfl⟩
  go_wp2_with fail
  refine (c1 _).mono ?_
  rintro e w' ⟨rfl, rfl⟩
  go_wp2_with fail
  refine (c2 _).mono ?_
  rintro e w' ⟨rfl, rfl⟩
  go_wp2_with fail
  refine (cmpOr_any _ s1 s2 _ (by simp) (by simp)).mono ?_
  rintro e w' ⟨rfl, rfl⟩
  go_wp2_with fail
  go_ret
  exact ⟨rfl, B.trans ((Below.nw _ _).mono B.size)⟩
end Go.Proofs.YtblappilppfkiaaDoor
namespace Go.Proofs.YtblappilppfkiaaDoor
open Go.RowKit
set_option linter.unusedVariables false
theorem keepG {w : World} {g j k : Nat} {x u : Value} (h : w.cell? ⟨g, 0, none⟩ = some x) (hj : g ≠ j) : (w.setCell ⟨j, k, none⟩ u).cell? ⟨g, 0, none⟩ = some x := by
  rw [World.cell?_of_block (w := w) (Below.heap_setCell _ _ _ _ hj)]
  exact h
/- The error beside a fraction: none, or the one that says that there is none. -/
def nfV (a : Addr) (b : Bool) : Value := match b with | true => .nilIface | false => .iface 124 (.pointer (some a))
theorem is_nf (a : Addr) (b : Bool) (w : World) : Calls Tryd.prog 27 #[nfV a b, .iface 124 (.pointer (some a))] w fun e w' => e = .returned (.bool (!b)) ∧ w = w' := by
  cases b
  · exact (is_same a w).mono fun e w' ⟨he, hw⟩ => ⟨he, hw.symm⟩
  · exact (is_nil a w).mono fun e w' ⟨he, hw⟩ => ⟨he, hw.symm⟩
set_option maxRecDepth 100000 in
set_option maxHeartbeats 4000000 in
theorem lowest_any (x y : Int) (a : Addr) (w : World) (E : Er w 0 a) : Calls Tryd.prog 26 #[.int .i64 x, .int .i64 y] w fun e w' => e = .returned (.tuple #[.agg #[.int .i64 (foX x y), .int .i64 (foY x y)], (nfV a (foB x y))]) ∧ Below w.heap.size w w' := by
  have A := Below.nw w (.cells #[.int .i64 0, .int .i64 0] 27)
  have N := Bx2.new w (.int .i64 0) (.int .i64 0) 27
  have k0 := (E.alloc (.cells #[.int .i64 0, .int .i64 0] 27)).1
  have hg : 0 ≠ w.heap.size := Nat.ne_of_lt E.2.1
  clear E
  by_cases h0 : y = 0
  · have e : foB x y = false := by rw [foB, h0]; rfl
    rw [(fo_f e).1, (fo_f e).2, e]
    clear e
    have h0' : (y == 0) = true := by simp [h0]
    show Calls Tryd.prog 26 #[.int .i64 x, .int .i64 y] w fun e w' => e = .returned (.tuple #[.agg #[.int .i64 0, .int .i64 0], (.iface 124 (.pointer (some a)))]) ∧ Below w.heap.size w w'
    go_enter Tryd.func26, Tryd.ntmps26
    go_upto_region 1 with fail
    generalize w.alloc (.cells #[.int .i64 0, .int .i64 0] 27) = v at *
    have NN := (N.set0 (.int .i64 0)).set1 (.int .i64 0)
    have AA := ((Below.drew A).setCell (p := ⟨w.heap.size, 0, none⟩) (Nat.le_refl _) (.int .i64 0)).setCell (p := ⟨w.heap.size, 1, none⟩) (Nat.le_refl _) (.int .i64 0)
    obtain ⟨n0, n1, n2, n3, n4⟩ := id N
    subst h0
    go_wp2_with fail

    refine wp_region_held_drew (S := (fun w' => w'.cell? ⟨0, 0, none⟩ = some (.iface 124 (.pointer (some a))))) (by kernel_rfl) ?_ (fun hHeld => ?_)
    · first | exact k0 | exact keepG (keepG k0 hg) hg
    refine wpAnyH_take (i := 0) (v := ?_) (by rw [List.getElem?_toArray]; rfl) (by kernel_rfl) (by kernel_rfl) (by kernel_rfl) (by intro _ _ _ h; exact h) (Or.inl ⟨by rfl, ?_⟩) (by assumption) ?_
    rotate_left
    · (intro w hSw; (try dsimp only at hSw); go_simp; all_goals with_reducible rfl)
    (try simp only [Act.put, List.setIfInBounds_toArray, List.set_cons_zero, List.set_cons_succ])
    refine wpAnyH_take (i := 1) (v := ?_) (by rw [List.getElem?_toArray]; rfl) (by kernel_rfl) (by kernel_rfl) (by kernel_rfl) (by intro _ _ _ h; exact h) (Or.inl ⟨by rfl, ?_⟩) (by assumption) ?_
    rotate_left
    · (intro w hSw; (try dsimp only at hSw); go_simp; all_goals with_reducible rfl)
    (try simp only [Act.put, List.setIfInBounds_toArray, List.set_cons_zero, List.set_cons_succ])
    refine wpAnyH_ready (rs := [2]) (by kernel_rfl) (by simp) ?_
    refine AllReadyH.cons (by rw [List.getElem?_toArray]; rfl) (fun K hK => ?_) AllReadyH.nil
    go_simp
    refine hK.out _ _ ?_ (fun hHeld => ?_)
    · first | exact k0 | exact keepG (keepG k0 hg) hg
    clear hK K
    (try simp only [Act.put, List.setIfInBounds_toArray, List.set_cons_zero, List.set_cons_succ])
    refine wpAnyH_take (i := 3) (v := ?_) (by rw [List.getElem?_toArray]; rfl) (by kernel_rfl) (by kernel_rfl) (by kernel_rfl) (by intro _ _ _ h; exact h) (Or.inl ⟨by rfl, ?_⟩) (by assumption) ?_
    rotate_left
    · (intro w hSw; (try dsimp only at hSw); go_simp; all_goals with_reducible rfl)
    (try simp only [Act.put, List.setIfInBounds_toArray, List.set_cons_zero, List.set_cons_succ])
    refine wpAnyH_done (by kernel_rfl) ?_ _
    go_wp2_with fail
    exact bodyPost_ret (v := (.tuple #[.agg #[.int .i64 0, .int .i64 0], (.iface 124 (.pointer (some a)))])) (by simp (maxDischargeDepth := 6) [results, Tryd.results26, go_sem, *]) rfl ⟨rfl, AA⟩
  have h0' : (y == 0) = false := beq_eq_false_iff_ne.2 h0
  cases h1 : szF x
  · have e : foB x y = false := by rw [foB, h1]; simp
    rw [(fo_f e).1, (fo_f e).2, e]
    clear e
    show Calls Tryd.prog 26 #[.int .i64 x, .int .i64 y] w fun e w' => e = .returned (.tuple #[.agg #[.int .i64 0, .int .i64 0], (.iface 124 (.pointer (some a)))]) ∧ Below w.heap.size w w'
    go_enter Tryd.func26, Tryd.ntmps26
    go_upto_region 1 with fail
    generalize w.alloc (.cells #[.int .i64 0, .int .i64 0] 27) = v at *
    have NN := (N.set0 (.int .i64 0)).set1 (.int .i64 0)
    have AA := ((Below.drew A).setCell (p := ⟨w.heap.size, 0, none⟩) (Nat.le_refl _) (.int .i64 0)).setCell (p := ⟨w.heap.size, 1, none⟩) (Nat.le_refl _) (.int .i64 0)
    obtain ⟨n0, n1, n2, n3, n4⟩ := id N
    go_wp2_with fail
    refine (isPart_any _ _).mono ?_
    rintro e w' ⟨rfl, rfl⟩
    rw [h1]
    go_wp2_with fail

    refine wp_region_held_drew (S := (fun w' => w'.cell? ⟨0, 0, none⟩ = some (.iface 124 (.pointer (some a))))) (by kernel_rfl) ?_ (fun hHeld => ?_)
    · first | exact k0 | exact keepG (keepG k0 hg) hg
    refine wpAnyH_take (i := 0) (v := ?_) (by rw [List.getElem?_toArray]; rfl) (by kernel_rfl) (by kernel_rfl) (by kernel_rfl) (by intro _ _ _ h; exact h) (Or.inl ⟨by rfl, ?_⟩) (by assumption) ?_
    rotate_left
    · (intro w hSw; (try dsimp only at hSw); go_simp; all_goals with_reducible rfl)
    (try simp only [Act.put, List.setIfInBounds_toArray, List.set_cons_zero, List.set_cons_succ])
    refine wpAnyH_take (i := 1) (v := ?_) (by rw [List.getElem?_toArray]; rfl) (by kernel_rfl) (by kernel_rfl) (by kernel_rfl) (by intro _ _ _ h; exact h) (Or.inl ⟨by rfl, ?_⟩) (by assumption) ?_
    rotate_left
    · (intro w hSw; (try dsimp only at hSw); go_simp; all_goals with_reducible rfl)
    (try simp only [Act.put, List.setIfInBounds_toArray, List.set_cons_zero, List.set_cons_succ])
    refine wpAnyH_ready (rs := [2]) (by kernel_rfl) (by simp) ?_
    refine AllReadyH.cons (by rw [List.getElem?_toArray]; rfl) (fun K hK => ?_) AllReadyH.nil
    go_simp
    refine hK.out _ _ ?_ (fun hHeld => ?_)
    · first | exact k0 | exact keepG (keepG k0 hg) hg
    clear hK K
    (try simp only [Act.put, List.setIfInBounds_toArray, List.set_cons_zero, List.set_cons_succ])
    refine wpAnyH_take (i := 3) (v := ?_) (by rw [List.getElem?_toArray]; rfl) (by kernel_rfl) (by kernel_rfl) (by kernel_rfl) (by intro _ _ _ h; exact h) (Or.inl ⟨by rfl, ?_⟩) (by assumption) ?_
    rotate_left
    · (intro w hSw; (try dsimp only at hSw); go_simp; all_goals with_reducible rfl)
    (try simp only [Act.put, List.setIfInBounds_toArray, List.set_cons_zero, List.set_cons_succ])
    refine wpAnyH_done (by kernel_rfl) ?_ _
    go_wp2_with fail
    exact bodyPost_ret (v := (.tuple #[.agg #[.int .i64 0, .int .i64 0], (.iface 124 (.pointer (some a)))])) (by simp (maxDischargeDepth := 6) [results, Tryd.results26, go_sem, *]) rfl ⟨rfl, AA⟩
  cases h2 : szF y
  · have e : foB x y = false := by rw [foB, h2]; simp
    rw [(fo_f e).1, (fo_f e).2, e]
    clear e
    show Calls Tryd.prog 26 #[.int .i64 x, .int .i64 y] w fun e w' => e = .returned (.tuple #[.agg #[.int .i64 0, .int .i64 0], (.iface 124 (.pointer (some a)))]) ∧ Below w.heap.size w w'
    go_enter Tryd.func26, Tryd.ntmps26
    go_upto_region 1 with fail
    generalize w.alloc (.cells #[.int .i64 0, .int .i64 0] 27) = v at *
    have NN := (N.set0 (.int .i64 0)).set1 (.int .i64 0)
    have AA := ((Below.drew A).setCell (p := ⟨w.heap.size, 0, none⟩) (Nat.le_refl _) (.int .i64 0)).setCell (p := ⟨w.heap.size, 1, none⟩) (Nat.le_refl _) (.int .i64 0)
    obtain ⟨n0, n1, n2, n3, n4⟩ := id N
    go_wp2_with fail
    refine (isPart_any _ _).mono ?_
    rintro e w' ⟨rfl, rfl⟩
    rw [h1]
    go_wp2_with fail
    refine (isPart_any _ _).mono ?_
    rintro e w' ⟨rfl, rfl⟩
    rw [h2]
    go_wp2_with fail

    refine wp_region_held_drew (S := (fun w' => w'.cell? ⟨0, 0, none⟩ = some (.iface 124 (.pointer (some a))))) (by kernel_rfl) ?_ (fun hHeld => ?_)
    · first | exact k0 | exact keepG (keepG k0 hg) hg
    refine wpAnyH_take (i := 0) (v := ?_) (by rw [List.getElem?_toArray]; rfl) (by kernel_rfl) (by kernel_rfl) (by kernel_rfl) (by intro _ _ _ h; exact h) (Or.inl ⟨by rfl, ?_⟩) (by assumption) ?_
    rotate_left
    · (intro w hSw; (try dsimp only at hSw); go_simp; all_goals with_reducible rfl)
    (try simp only [Act.put, List.setIfInBounds_toArray, List.set_cons_zero, List.set_cons_succ])
    refine wpAnyH_take (i := 1) (v := ?_) (by rw [List.getElem?_toArray]; rfl) (by kernel_rfl) (by kernel_rfl) (by kernel_rfl) (by intro _ _ _ h; exact h) (Or.inl ⟨by rfl, ?_⟩) (by assumption) ?_
    rotate_left
    · (intro w hSw; (try dsimp only at hSw); go_simp; all_goals with_reducible rfl)
    (try simp only [Act.put, List.setIfInBounds_toArray, List.set_cons_zero, List.set_cons_succ])
    refine wpAnyH_ready (rs := [2]) (by kernel_rfl) (by simp) ?_
    refine AllReadyH.cons (by rw [List.getElem?_toArray]; rfl) (fun K hK => ?_) AllReadyH.nil
    go_simp
    refine hK.out _ _ ?_ (fun hHeld => ?_)
    · first | exact k0 | exact keepG (keepG k0 hg) hg
    clear hK K
    (try simp only [Act.put, List.setIfInBounds_toArray, List.set_cons_zero, List.set_cons_succ])
    refine wpAnyH_take (i := 3) (v := ?_) (by rw [List.getElem?_toArray]; rfl) (by kernel_rfl) (by kernel_rfl) (by kernel_rfl) (by intro _ _ _ h; exact h) (Or.inl ⟨by rfl, ?_⟩) (by assumption) ?_
    rotate_left
    · (intro w hSw; (try dsimp only at hSw); go_simp; all_goals with_reducible rfl)
    (try simp only [Act.put, List.setIfInBounds_toArray, List.set_cons_zero, List.set_cons_succ])
    refine wpAnyH_done (by kernel_rfl) ?_ _
    go_wp2_with fail
    exact bodyPost_ret (v := (.tuple #[.agg #[.int .i64 0, .int .i64 0], (.iface 124 (.pointer (some a)))])) (by simp (maxDischargeDepth := 6) [results, Tryd.results26, go_sem, *]) rfl ⟨rfl, AA⟩
  have e : foB x y = true := by rw [foB, h1, h2, h0']; rfl
  rw [(fo_t e).1, (fo_t e).2, e]
  clear e k0 hg
  show Calls Tryd.prog 26 #[.int .i64 x, .int .i64 y] w fun e w' => e = .returned (.tuple #[.agg #[.int .i64 (foN x y), .int .i64 (foD x y)], .nilIface]) ∧ Below w.heap.size w w'
  have CG := fun w' => inCommon_any x y w' (szF_t h1) (szF_t h2)
  have hgn := foG_ne (x := x) h0
  have hgi : -4000000000000 ≤ foG x y ∧ foG x y ≤ 4000000000000 := by
    have := gcd_in (x := x) (szF_t h2) h0
    unfold foG
    split <;> omega
  have b1 := td_in (g := foG x y) (szF_t h1)
  have b2 := td_in (g := foG x y) (szF_t h2)
  unfold foN foD
  generalize foG x y = gg at *
  have hgz : ¬ gg = 0 := hgn
  have hgz' : (gg == 0) = false := beq_eq_false_iff_ne.2 hgz
  have hw1 : IntKind.i64.wrap (x.tdiv gg) = x.tdiv gg := Go.IntWalk.i64_in _ ⟨by omega, by omega⟩
  have hw2 : IntKind.i64.wrap (y.tdiv gg) = y.tdiv gg := Go.IntWalk.i64_in _ ⟨by omega, by omega⟩
  clear hgn
  go_enter Tryd.func26, Tryd.ntmps26
  go_upto_region 1 with fail
  generalize w.alloc (.cells #[.int .i64 0, .int .i64 0] 27) = v at *
  go_wp2_with fail
  refine (isPart_any _ _).mono ?_
  rintro e w' ⟨rfl, rfl⟩
  rw [h1]
  go_wp2_with fail
  refine (isPart_any _ _).mono ?_
  rintro e w' ⟨rfl, rfl⟩
  rw [h2]
  go_wp2_with fail
  refine (CG _).mono ?_
  rintro e v2 ⟨rfl, hb⟩
  replace N := N.below hb
  replace A := A.trans (hb.mono A.size)
  clear hb
  have NN := (N.set0 (.int .i64 (x.tdiv gg))).set1 (.int .i64 (y.tdiv gg))
  have AA := ((Below.drew A).setCell (p := ⟨w.heap.size, 0, none⟩) (Nat.le_refl _) (.int .i64 (x.tdiv gg))).setCell (p := ⟨w.heap.size, 1, none⟩) (Nat.le_refl _) (.int .i64 (y.tdiv gg))
  obtain ⟨n0, n1, n2, n3, n4⟩ := id N
  go_upto_region 4 with fail

  refine wp_region_held_drew (S := (fun _ => True)) (by kernel_rfl) ?_ (fun hHeld => ?_)
  · trivial
  refine wpAnyH_take (i := 0) (v := ?_) (by rw [List.getElem?_toArray]; rfl) (by kernel_rfl) (by kernel_rfl) (by kernel_rfl) (by intro _ _ _ h; exact h) (Or.inl ⟨by rfl, ?_⟩) (by assumption) ?_
  rotate_left
  · (intro w hSw; (try dsimp only at hSw); go_simp; all_goals with_reducible rfl)
  (try simp only [Act.put, List.setIfInBounds_toArray, List.set_cons_zero, List.set_cons_succ])
  refine wpAnyH_take (i := 1) (v := ?_) (by rw [List.getElem?_toArray]; rfl) (by kernel_rfl) (by kernel_rfl) (by kernel_rfl) (by intro _ _ _ h; exact h) (Or.inl ⟨by rfl, ?_⟩) (by assumption) ?_
  rotate_left
  · (intro w hSw; (try dsimp only at hSw); go_simp; all_goals with_reducible rfl)
  (try simp only [Act.put, List.setIfInBounds_toArray, List.set_cons_zero, List.set_cons_succ])
  refine wpAnyH_take (i := 2) (v := ?_) (by rw [List.getElem?_toArray]; rfl) (by kernel_rfl) (by kernel_rfl) (by kernel_rfl) (by intro _ _ _ h; exact h) (Or.inl ⟨by rfl, ?_⟩) (by assumption) ?_
  rotate_left
  · (intro w hSw; (try dsimp only at hSw); go_simp; all_goals with_reducible rfl)
  (try simp only [Act.put, List.setIfInBounds_toArray, List.set_cons_zero, List.set_cons_succ])
  refine wpAnyH_take (i := 3) (v := ?_) (by rw [List.getElem?_toArray]; rfl) (by kernel_rfl) (by kernel_rfl) (by kernel_rfl) (by intro _ _ _ h; exact h) (Or.inl ⟨by rfl, ?_⟩) (by assumption) ?_
  rotate_left
  · (intro w hSw; (try dsimp only at hSw); go_simp; all_goals with_reducible rfl)
  (try simp only [Act.put, List.setIfInBounds_toArray, List.set_cons_zero, List.set_cons_succ])
  refine wpAnyH_take (i := 4) (v := ?_) (by rw [List.getElem?_toArray]; rfl) (by kernel_rfl) (by kernel_rfl) (by kernel_rfl) (by intro _ _ _ h; exact h) (Or.inl ⟨by rfl, ?_⟩) (by assumption) ?_
  rotate_left
  · (intro w hSw; (try dsimp only at hSw); go_simp; all_goals with_reducible rfl)
  (try simp only [Act.put, List.setIfInBounds_toArray, List.set_cons_zero, List.set_cons_succ])
  refine wpAnyH_take (i := 5) (v := ?_) (by rw [List.getElem?_toArray]; rfl) (by kernel_rfl) (by kernel_rfl) (by kernel_rfl) (by intro _ _ _ h; exact h) (Or.inl ⟨by rfl, ?_⟩) (by assumption) ?_
  rotate_left
  · (intro w hSw; (try dsimp only at hSw); go_simp; all_goals with_reducible rfl)
  (try simp only [Act.put, List.setIfInBounds_toArray, List.set_cons_zero, List.set_cons_succ])
  refine wpAnyH_take (i := 6) (v := ?_) (by rw [List.getElem?_toArray]; rfl) (by kernel_rfl) (by kernel_rfl) (by kernel_rfl) (by intro _ _ _ h; exact h) (Or.inl ⟨by rfl, ?_⟩) (by assumption) ?_
  rotate_left
  · (intro w hSw; (try dsimp only at hSw); go_simp; all_goals with_reducible rfl)
  (try simp only [Act.put, List.setIfInBounds_toArray, List.set_cons_zero, List.set_cons_succ])
  refine wpAnyH_ready (rs := [7]) (by kernel_rfl) (by simp) ?_
  refine AllReadyH.cons (by rw [List.getElem?_toArray]; rfl) (fun K hK => ?_) AllReadyH.nil
  go_simp
  refine hK.out _ _ ?_ (fun hHeld => ?_)
  · trivial
  clear hK K
  (try simp only [Act.put, List.setIfInBounds_toArray, List.set_cons_zero, List.set_cons_succ])
  refine wpAnyH_take (i := 8) (v := ?_) (by rw [List.getElem?_toArray]; rfl) (by kernel_rfl) (by kernel_rfl) (by kernel_rfl) (by intro _ _ _ h; exact h) (Or.inl ⟨by rfl, ?_⟩) (by assumption) ?_
  rotate_left
  · (intro w hSw; (try dsimp only at hSw); go_simp; all_goals with_reducible rfl)
  (try simp only [Act.put, List.setIfInBounds_toArray, List.set_cons_zero, List.set_cons_succ])
  refine wpAnyH_done (by kernel_rfl) ?_ _
  go_wp2_with fail
  exact bodyPost_ret (v := (.tuple #[.agg #[.int .i64 (x.tdiv gg), .int .i64 (y.tdiv gg)], .nilIface])) (by simp (maxDischargeDepth := 6) [results, Tryd.results26, go_sem, *]) rfl ⟨rfl, AA⟩
/- A fraction is in lowest terms just if it comes out as itself. -/
theorem ok_fo (x y : Int) : okF x y = (foB x y && (foX x y == x && foY x y == y)) := by
  cases hB : foB x y
  · rw [Bool.false_and]
    cases hx : szF x
    · rw [okF, hx]; rfl
    · cases hy : dnF y
      · rw [okF, hx, hy]; rfl
      · exfalso
        have h1 := dnF_t hy
        have h2 : szF y = true := decide_eq_true ⟨by omega, by omega⟩
        have h3 : (y == 0) = false := beq_eq_false_iff_ne.2 (by omega)
        rw [foB, hx, h2, h3] at hB
        cases hB
  · rw [Bool.true_and, (fo_t hB).1, (fo_t hB).2]
    have hB' := hB
    unfold foB at hB'
    simp only [Bool.and_eq_true, Bool.not_eq_true', beq_eq_false_iff_ne] at hB'
    obtain ⟨⟨h0, hx⟩, hy⟩ := hB'
    have hp := fo_pos (x := x) h0
    obtain ⟨q1, q2⟩ := fo_exact (x := x) (y := y)
    by_cases hn : y < 0
    · have e1 : okF x y = false := by
        have : dnF y = false := decide_eq_false fun h => by omega
        rw [okF, this, Bool.and_false, Bool.false_and]
      have e2 : (foD x y == y) = false := beq_eq_false_iff_ne.2 (by omega)
      rw [e1, e2, Bool.and_false]
    · have hyb := szF_t hy
      have hd : dnF y = true := decide_eq_true ⟨by omega, by omega⟩
      rw [okF, hx, hd]
      have eg : foG x y = (Int.gcd x y : Int) := if_neg hn
      by_cases h1 : (Int.gcd x y : Int) = 1
      · rw [eg, h1, Int.mul_one] at q1 q2
        rw [h1, q1, q2]
        simp
      · have e3 : ((Int.gcd x y : Int) == 1) = false := beq_eq_false_iff_ne.2 h1
        have e4 : (foD x y == y) = false := by
          refine beq_eq_false_iff_ne.2 fun h => h1 ?_
          rw [h, eg] at q2
          have : y * (Int.gcd x y : Int) = y * 1 := by rw [q2, Int.mul_one]
          exact Int.eq_of_mul_eq_mul_left h0 this
        rw [e3, e4]
        simp
end Go.Proofs.YtblappilppfkiaaDoor
namespace Go.Proofs.YtblappilppfkiaaDoor
open Go.RowKit
set_option linter.unusedVariables false
set_option maxHeartbeats 4000000 in
theorem fracOk_any (x y : Int) (a : Addr) (w : World) (E : Er w 0 a) : Calls Tryd.prog 31 #[.agg #[.int .i64 x, .int .i64 y]] w fun e w' => e = .returned (.bool (okF x y)) ∧ Below w.heap.size w w' := by
  have A := Below.nw w (.cells #[.int .i64 x, .int .i64 y] 27)
  have N := Bx2.new w (.int .i64 x) (.int .i64 y) 27
  replace E := E.alloc (.cells #[.int .i64 x, .int .i64 y] 27)
  rw [ok_fo]
  have CL := fun w' E' => lowest_any x y a w' E'
  generalize foX x y = fx at *
  generalize foY x y = fy at *
  generalize foB x y = fb at *
  go_enter Tryd.func31, Tryd.ntmps31
  go_upto_region 1 with fail
  generalize w.alloc (.cells #[.int .i64 x, .int .i64 y] 27) = v at *
  obtain ⟨n0, n1, n2, n3, n4⟩ := id N
  go_wp2_with fail
  refine (CL v E).mono ?_
  rintro e v2 ⟨rfl, hb⟩
  replace N := N.below hb
  replace E := E.below hb
  replace A := A.trans (hb.mono A.size)
  clear n0 n1 n2 n3 n4 hb CL
  go_upto_region 2 with fail
  have M := Bx2.new v2 (.int .i64 fx) (.int .i64 fy) 27
  have A2 := Below.nw v2 (.cells #[.int .i64 fx, .int .i64 fy] 27)
  replace N := N.below A2
  replace E := E.below A2
  replace A := A.trans (A2.mono A.size)
  clear A2
  generalize v2.alloc (.cells #[.int .i64 fx, .int .i64 fy] 27) = v3 at *
  have k0 := E.1
  obtain ⟨n0, n1, n2, n3, n4⟩ := id N
  obtain ⟨m0, m1, m2, m3, m4⟩ := id M
  cases fb
  · go_wp2_with (go_at_call 27; refine (is_nf a false _).mono ?_; rintro e w' ⟨rfl, rfl⟩)
    go_ret
    exact ⟨rfl, A⟩
  · by_cases e1 : fx = x
    · subst e1
      by_cases e2 : fy = y
      · subst e2
        have z1 : (fx == fx) = true := by simp
        have z2 : (fy == fy) = true := by simp
        go_wp2_with (go_at_call 27; refine (is_nf a true _).mono ?_; rintro e w' ⟨rfl, rfl⟩)
        go_ret
        exact ⟨by rw [z1, z2]; rfl, A⟩
      · have z1 : (fx == fx) = true := by simp
        have z2 : (fy == y) = false := beq_eq_false_iff_ne.2 e2
        go_wp2_with (go_at_call 27; refine (is_nf a true _).mono ?_; rintro e w' ⟨rfl, rfl⟩)
        go_ret
        exact ⟨by rw [z1, z2]; rfl, A⟩
    · have z1 : (fx == x) = false := beq_eq_false_iff_ne.2 e1
      go_wp2_with (go_at_call 27; refine (is_nf a true _).mono ?_; rintro e w' ⟨rfl, rfl⟩)
      go_ret
      exact ⟨by rw [z1]; rfl, A⟩
set_option maxHeartbeats 4000000 in
theorem implFracOk_any (x y : Int) (a : Addr) (w : World) (E : Er w 0 a) : Calls Tryd.prog 10 #[.agg #[.int .i64 x, .int .i64 y]] w fun e w' => e = .returned (.bool (okF x y)) ∧ Below w.heap.size w w' := by
  have A := Below.nw w (.cells #[.int .i64 x, .int .i64 y] 27)
  have N := Bx2.new w (.int .i64 x) (.int .i64 y) 27
  replace E := E.alloc (.cells #[.int .i64 x, .int .i64 y] 27)
  go_enter Tryd.func10, Tryd.ntmps10
  go_upto_region 1 with fail
  generalize w.alloc (.cells #[.int .i64 x, .int .i64 y] 27) = v at *
  obtain ⟨n0, n1, n2, n3, n4⟩ := id N
  go_wp2_with fail
  refine (fracOk_any x y a v E).mono ?_
  rintro e v2 ⟨rfl, hb⟩
  go_wp2_with fail
  go_ret
  exact ⟨rfl, A.trans (hb.mono A.size)⟩
theorem keepC {w : World} {g i j k : Nat} {x u : Value} (h : w.cell? ⟨g, i, none⟩ = some x) (hj : g ≠ j) : (w.setCell ⟨j, k, none⟩ u).cell? ⟨g, i, none⟩ = some x := by
  rw [World.cell?_of_block (w := w) (Below.heap_setCell _ _ _ _ hj)]
  exact h
set_option maxRecDepth 100000 in
set_option maxHeartbeats 4000000 in
theorem implFracOf_any (x y : Int) (a : Addr) (w : World) (E : Er w 0 a) : Calls Tryd.prog 7 #[.int .i64 x, .int .i64 y] w fun e w' => e = .returned (.tuple #[.agg #[.int .i64 (foX x y), .int .i64 (foY x y)], .bool (foB x y)]) ∧ Below w.heap.size w w' := by
  have A := Below.nw w (.cells #[.int .i64 0, .int .i64 0] 27)
  have N := Bx2.new w (.int .i64 0) (.int .i64 0) 27
  have hg : 0 ≠ w.heap.size := Nat.ne_of_lt E.2.1
  replace E := E.alloc (.cells #[.int .i64 0, .int .i64 0] 27)
  have CL := fun w' E' => lowest_any x y a w' E'
  generalize foX x y = fx at *
  generalize foY x y = fy at *
  generalize foB x y = fb at *
  go_enter Tryd.func7, Tryd.ntmps7
  go_upto_region 1 with fail
  generalize w.alloc (.cells #[.int .i64 0, .int .i64 0] 27) = v at *
  go_wp2_with fail
  refine (CL v E).mono ?_
  rintro e v2 ⟨rfl, hb⟩
  replace N := N.below hb
  replace E := E.below hb
  replace A := A.trans (hb.mono A.size)
  clear hb CL
  have M := Bx2.new v2 (.int .i64 fx) (.int .i64 fy) 27
  have A2 := Below.nw v2 (.cells #[.int .i64 fx, .int .i64 fy] 27)
  have hj : v2.heap.size ≠ w.heap.size := Nat.ne_of_gt N.1
  replace N := N.below A2
  replace E := E.below A2
  replace A := A.trans (A2.mono A.size)
  clear A2
  go_upto_region 2 with fail
  generalize v2.alloc (.cells #[.int .i64 fx, .int .i64 fy] 27) = v3 at *
  generalize v2.heap.size = j at *
  have k0 := E.1
  clear E
  have NN := (N.set0 (.int .i64 fx)).set1 (.int .i64 fy)
  have AA := ((Below.drew A).setCell (p := ⟨w.heap.size, 0, none⟩) (Nat.le_refl _) (.int .i64 fx)).setCell (p := ⟨w.heap.size, 1, none⟩) (Nat.le_refl _) (.int .i64 fy)
  obtain ⟨n0, n1, n2, n3, n4⟩ := id N
  obtain ⟨m0, m1, m2, m3, m4⟩ := id M
  refine wp_region_held_drew (S := (fun w' => w'.cell? ⟨0, 0, none⟩ = some (.iface 124 (.pointer (some a))) ∧ w'.cell? ⟨j, 0, none⟩ = some (.int .i64 fx) ∧ w'.cell? ⟨j, 1, none⟩ = some (.int .i64 fy))) (by kernel_rfl) ?_ (fun hHeld => ?_)
  · first | exact ⟨k0, m1, m2⟩ | exact hHeld | exact ⟨keepC (keepC k0 hg) hg, keepC (keepC m1 hj) hj, keepC (keepC m2 hj) hj⟩
  refine wpAnyH_take (i := 0) (v := ?_) (by rw [List.getElem?_toArray]; rfl) (by kernel_rfl) (by kernel_rfl) (by kernel_rfl) (by intro _ _ _ h; exact h) (Or.inl ⟨by rfl, ?_⟩) (by assumption) ?_
  rotate_left
  · (intro w hSw; (try dsimp only at hSw); go_simp; all_goals with_reducible rfl)
  (try simp only [Act.put, List.setIfInBounds_toArray, List.set_cons_zero, List.set_cons_succ])
  refine wpAnyH_take (i := 1) (v := ?_) (by rw [List.getElem?_toArray]; rfl) (by kernel_rfl) (by kernel_rfl) (by kernel_rfl) (by intro _ _ _ h; exact h) (Or.inl ⟨by rfl, ?_⟩) (by assumption) ?_
  rotate_left
  · (intro w hSw; (try dsimp only at hSw); go_simp; all_goals with_reducible rfl)
  (try simp only [Act.put, List.setIfInBounds_toArray, List.set_cons_zero, List.set_cons_succ])
  refine wpAnyH_take (i := 2) (v := ?_) (by rw [List.getElem?_toArray]; rfl) (by kernel_rfl) (by kernel_rfl) (by kernel_rfl) (by intro _ _ _ h; exact h) (Or.inl ⟨by rfl, ?_⟩) (by assumption) ?_
  rotate_left
  · (intro w hSw; (try dsimp only at hSw); go_simp; all_goals with_reducible rfl)
  (try simp only [Act.put, List.setIfInBounds_toArray, List.set_cons_zero, List.set_cons_succ])
  refine wpAnyH_ready (rs := [3]) (by kernel_rfl) (by simp) ?_
  refine AllReadyH.cons (by rw [List.getElem?_toArray]; rfl) (fun K hK => ?_) AllReadyH.nil
  go_simp
  refine (is_nf a fb _).mono ?_; rintro e w' ⟨rfl, rfl⟩
  (try go_wp2_with fail)
  refine hK.out _ _ ?_ (fun hHeld => ?_)
  · first | exact ⟨k0, m1, m2⟩ | exact hHeld | exact ⟨keepC (keepC k0 hg) hg, keepC (keepC m1 hj) hj, keepC (keepC m2 hj) hj⟩
  clear hK K
  (try simp only [Act.put, List.setIfInBounds_toArray, List.set_cons_zero, List.set_cons_succ])
  refine wpAnyH_take (i := 4) (v := ?_) (by rw [List.getElem?_toArray]; rfl) (by kernel_rfl) (by kernel_rfl) (by kernel_rfl) (by intro _ _ _ h; exact h) (Or.inl ⟨by rfl, ?_⟩) (by assumption) ?_
  rotate_left
  · (intro w hSw; (try dsimp only at hSw); go_simp; all_goals with_reducible rfl)
  (try simp only [Act.put, List.setIfInBounds_toArray, List.set_cons_zero, List.set_cons_succ])
  refine wpAnyH_ready (rs := [5]) (by kernel_rfl) (by simp) ?_
  refine AllReadyH.cons (by rw [List.getElem?_toArray]; rfl) (fun K hK => ?_) AllReadyH.nil
  go_simp
  refine hK.out _ _ ?_ (fun hHeld => ?_)
  · first | exact ⟨k0, m1, m2⟩ | exact hHeld | exact ⟨keepC (keepC k0 hg) hg, keepC (keepC m1 hj) hj, keepC (keepC m2 hj) hj⟩
  clear hK K
  (try simp only [Act.put, List.setIfInBounds_toArray, List.set_cons_zero, List.set_cons_succ])
  refine wpAnyH_take (i := 6) (v := ?_) (by rw [List.getElem?_toArray]; rfl) (by kernel_rfl) (by kernel_rfl) (by kernel_rfl) (by intro _ _ _ h; exact h) (Or.inl ⟨by rfl, ?_⟩) (by assumption) ?_
  rotate_left
  · (intro w hSw; (try dsimp only at hSw); go_simp; all_goals with_reducible rfl)
  (try simp only [Act.put, List.setIfInBounds_toArray, List.set_cons_zero, List.set_cons_succ])
  refine wpAnyH_done (by kernel_rfl) ?_ _
  go_wp2_with fail
  exact bodyPost_ret (v := .tuple #[.agg #[.int .i64 fx, .int .i64 fy], .bool fb]) (by cases fb <;> simp (maxDischargeDepth := 6) [results, Tryd.results7, go_sem, *]) rfl ⟨rfl, AA⟩
end Go.Proofs.YtblappilppfkiaaDoor
namespace Go.Proofs.YtblappilppfkiaaDoor
open Go.RowKit
set_option linter.unusedVariables false
theorem sgn_sub {x y : Int} : (x < y → sgn (x - y) = -1) ∧ (x = y → sgn (x - y) = 0) ∧ (y < x → sgn (x - y) = 1) := ⟨fun h => sgn_neg (by omega), fun h => sgn_zero (by omega), fun h => sgn_pos (by omega)⟩
theorem emod_left {a b : Int} : a - a / b * b = a % b := by
  have := Int.mul_ediv_add_emod a b
  rw [Int.mul_comm] at this
  omega
/- How the program's two comparisons in a row come tuu the order of fractions. -/
theorem row_cmp {a b p q : Int} (hb : 0 < b) (hq : 0 < q) : cmpF a b p q = orI (sgn (a / b - p / q)) (sgn (a % b * q - p % q * b)) := by
  rcases Int.lt_trichotomy (a / b) (p / q) with h | h | h
  · rw [cmp_less hb hq h, sgn_sub.1 h, orI_n _ (by decide)]
  · rw [cmp_same hb hq h, sgn_sub.2.1 h, orI_0, emod_left, emod_left]
  · rw [cmp_more hb hq h, sgn_sub.2.2 h, orI_n _ (by decide)]
theorem row_first (w : World) : (Instr.index 97 (.agg #[.func (.func 54) #[] #[], .func (.func 55) #[] #[]]) (.int .i64 0)).run Tryd.prog w = .ok (.func (.func 54) #[] #[]) w := by kernel_rfl
theorem row_second (w : World) : (Instr.index 97 (.agg #[.func (.func 54) #[] #[], .func (.func 55) #[] #[]]) (.int .i64 1)).run Tryd.prog w = .ok (.func (.func 55) #[] #[]) w := by kernel_rfl
set_option maxRecDepth 100000 in
set_option maxHeartbeats 4000000 in
theorem against_any (a b p q : Int) (w : World) (ha : -4000000000000 ≤ a ∧ a ≤ 4000000000000) (hb : 1 ≤ b ∧ b ≤ 4000000000000) (hp : -4000000000000 ≤ p ∧ p ≤ 4000000000000) (hq : 1 ≤ q ∧ q ≤ 4000000000000) : Calls Tryd.prog 33 #[.agg #[.int .i64 a, .int .i64 b], .agg #[.int .i64 p, .int .i64 q]] w fun e w' => e = .returned (.int .i64 (cmpF a b p q)) ∧ Below w.heap.size w w' := by
  have A := Below.nw w (.cells #[.int .i64 a, .int .i64 b] 27); have A2 := Below.nw (w.alloc (.cells #[.int .i64 a, .int .i64 b] 27)) (.cells #[.int .i64 p, .int .i64 q] 27); have N := (Bx2.new w (.int .i64 a) (.int .i64 b) 27).below A2; have Q := Bx2.new (w.alloc (.cells #[.int .i64 a, .int .i64 b] 27)) (.int .i64 p) (.int .i64 q) 27; simp only [World.size_alloc] at Q; have B := A.trans (A2.mono A.size); clear A A2
  rw [row_cmp (by omega) (by omega)]
  have C1 := fun w' => byWhole_any a b p q w' ha hb hp hq
  have C2 := fun w' => byRest_any a b p q w' ha hb hp hq
  have i1 := row_first
  have i2 := row_second
  generalize sgn (a / b - p / q) = x at *
  generalize sgn (a % b * q - p % q * b) = y at *
  by_cases hx : x = 0
  · subst hx
    rw [orI_0]
    by_cases hy : y = 0
    · subst hy
      go_enter Tryd.func33, Tryd.ntmps33
      go_upto_region 1 with fail
      generalize (w.alloc (.cells #[.int .i64 a, .int .i64 b] 27)).alloc (.cells #[.int .i64 p, .int .i64 q] 27) = v at *
      obtain ⟨n0, n1, n2, n3, n4⟩ := id N; obtain ⟨m0, m1, m2, m3, m4⟩ := id Q
      go_wp2_with fail
      refine wp_loop_rounds 3 ?_
      rw [rounds_succ]
      go_wp2_with fail
      refine (C1 _).mono ?_
      rintro e v2 ⟨rfl, hbl⟩
      clear n0 n1 n2 n3 n4 m0 m1 m2 m3 m4
      replace N := N.below hbl; replace Q := Q.below hbl; replace B := B.trans (hbl.mono B.size); clear hbl
      obtain ⟨n0, n1, n2, n3, n4⟩ := id N; obtain ⟨m0, m1, m2, m3, m4⟩ := id Q
      go_wp2_with fail
      rw [rounds_succ]
      go_wp2_with fail
      refine (C2 _).mono ?_
      rintro e v3 ⟨rfl, hbl⟩
      clear n0 n1 n2 n3 n4 m0 m1 m2 m3 m4
      replace N := N.below hbl; replace Q := Q.below hbl; replace B := B.trans (hbl.mono B.size); clear hbl
      go_wp2_with fail
      rw [rounds_succ]
      go_wp2_with fail
      go_ret
      exact ⟨rfl, B⟩
    · have hy' : (y != 0) = true := bne_iff_ne.2 hy
      go_enter Tryd.func33, Tryd.ntmps33
      go_upto_region 1 with fail
      generalize (w.alloc (.cells #[.int .i64 a, .int .i64 b] 27)).alloc (.cells #[.int .i64 p, .int .i64 q] 27) = v at *
      obtain ⟨n0, n1, n2, n3, n4⟩ := id N; obtain ⟨m0, m1, m2, m3, m4⟩ := id Q
      go_wp2_with fail
      refine wp_loop_rounds 3 ?_
      rw [rounds_succ]
      go_wp2_with fail
      refine (C1 _).mono ?_
      rintro e v2 ⟨rfl, hbl⟩
      clear n0 n1 n2 n3 n4 m0 m1 m2 m3 m4
      replace N := N.below hbl; replace Q := Q.below hbl; replace B := B.trans (hbl.mono B.size); clear hbl
      obtain ⟨n0, n1, n2, n3, n4⟩ := id N; obtain ⟨m0, m1, m2, m3, m4⟩ := id Q
      go_wp2_with fail
      rw [rounds_succ]
      go_wp2_with fail
      refine (C2 _).mono ?_
      rintro e v3 ⟨rfl, hbl⟩
      clear n0 n1 n2 n3 n4 m0 m1 m2 m3 m4
      replace N := N.below hbl; replace Q := Q.below hbl; replace B := B.trans (hbl.mono B.size); clear hbl
      go_wp2_with fail
      go_ret
      exact ⟨rfl, B⟩
  · rw [orI_n _ hx]
    have hx' : (x != 0) = true := bne_iff_ne.2 hx
    go_enter Tryd.func33, Tryd.ntmps33
    go_upto_region 1 with fail
    generalize (w.alloc (.cells #[.int .i64 a, .int .i64 b] 27)).alloc (.cells #[.int .i64 p, .int .i64 q] 27) = v at *
    obtain ⟨n0, n1, n2, n3, n4⟩ := id N; obtain ⟨m0, m1, m2, m3, m4⟩ := id Q
    go_wp2_with fail
    refine wp_loop_rounds 3 ?_
    rw [rounds_succ]
    go_wp2_with fail
    refine (C1 _).mono ?_
    rintro e v2 ⟨rfl, hbl⟩
    clear n0 n1 n2 n3 n4 m0 m1 m2 m3 m4
    replace N := N.below hbl; replace Q := Q.below hbl; replace B := B.trans (hbl.mono B.size); clear hbl
    go_wp2_with fail
    go_ret
    exact ⟨rfl, B⟩
set_option maxHeartbeats 4000000 in
theorem fbelow_any (a b p q : Int) (w : World) (ha : -4000000000000 ≤ a ∧ a ≤ 4000000000000) (hb : 1 ≤ b ∧ b ≤ 4000000000000) (hp : -4000000000000 ≤ p ∧ p ≤ 4000000000000) (hq : 1 ≤ q ∧ q ≤ 4000000000000) : Calls Tryd.prog 64 #[.agg #[.int .i64 a, .int .i64 b], .agg #[.int .i64 p, .int .i64 q]] w fun e w' => e = .returned (.bool (decide (cmpF a b p q < 0))) ∧ Below w.heap.size w w' := by
  have A := Below.nw w (.cells #[.int .i64 a, .int .i64 b] 27); have A2 := Below.nw (w.alloc (.cells #[.int .i64 a, .int .i64 b] 27)) (.cells #[.int .i64 p, .int .i64 q] 27); have N := (Bx2.new w (.int .i64 a) (.int .i64 b) 27).below A2; have Q := Bx2.new (w.alloc (.cells #[.int .i64 a, .int .i64 b] 27)) (.int .i64 p) (.int .i64 q) 27; simp only [World.size_alloc] at Q; have B := A.trans (A2.mono A.size); clear A A2
  have C1 := fun w' => against_any a b p q w' ha hb hp hq
  generalize cmpF a b p q = x at *
  go_enter Tryd.func64, Tryd.ntmps64
  go_upto_region 1 with fail
  generalize (w.alloc (.cells #[.int .i64 a, .int .i64 b] 27)).alloc (.cells #[.int .i64 p, .int .i64 q] 27) = v at *
  obtain ⟨n0, n1, n2, n3, n4⟩ := id N; obtain ⟨m0, m1, m2, m3, m4⟩ := id Q
  go_wp2_with fail
  refine (C1 _).mono ?_
  rintro e v2 ⟨rfl, hbl⟩
  clear n0 n1 n2 n3 n4 m0 m1 m2 m3 m4
  replace N := N.below hbl; replace Q := Q.below hbl; replace B := B.trans (hbl.mono B.size); clear hbl
  go_wp2_with fail
  go_ret
  exact ⟨rfl, B⟩
set_option maxHeartbeats 4000000 in
theorem fabove_any (a b p q : Int) (w : World) (ha : -4000000000000 ≤ a ∧ a ≤ 4000000000000) (hb : 1 ≤ b ∧ b ≤ 4000000000000) (hp : -4000000000000 ≤ p ∧ p ≤ 4000000000000) (hq : 1 ≤ q ∧ q ≤ 4000000000000) : Calls Tryd.prog 65 #[.agg #[.int .i64 a, .int .i64 b], .agg #[.int .i64 p, .int .i64 q]] w fun e w' => e = .returned (.bool (decide (0 < cmpF a b p q))) ∧ Below w.heap.size w w' := by
  have A := Below.nw w (.cells #[.int .i64 a, .int .i64 b] 27); have A2 := Below.nw (w.alloc (.cells #[.int .i64 a, .int .i64 b] 27)) (.cells #[.int .i64 p, .int .i64 q] 27); have N := (Bx2.new w (.int .i64 a) (.int .i64 b) 27).below A2; have Q := Bx2.new (w.alloc (.cells #[.int .i64 a, .int .i64 b] 27)) (.int .i64 p) (.int .i64 q) 27; simp only [World.size_alloc] at Q; have B := A.trans (A2.mono A.size); clear A A2
  have C1 := fun w' => against_any a b p q w' ha hb hp hq
  generalize cmpF a b p q = x at *
  go_enter Tryd.func65, Tryd.ntmps65
  go_upto_region 1 with fail
  generalize (w.alloc (.cells #[.int .i64 a, .int .i64 b] 27)).alloc (.cells #[.int .i64 p, .int .i64 q] 27) = v at *
  obtain ⟨n0, n1, n2, n3, n4⟩ := id N; obtain ⟨m0, m1, m2, m3, m4⟩ := id Q
  go_wp2_with fail
  refine (C1 _).mono ?_
  rintro e v2 ⟨rfl, hbl⟩
  clear n0 n1 n2 n3 n4 m0 m1 m2 m3 m4
  replace N := N.below hbl; replace Q := Q.below hbl; replace B := B.trans (hbl.mono B.size); clear hbl
  go_wp2_with fail
  go_ret
  exact ⟨rfl, B⟩
set_option maxHeartbeats 4000000 in
theorem implFracCmp_any (a b p q : Int) (u : Addr) (w : World) (E : Er w 0 u) : Calls Tryd.prog 13 #[.agg #[.int .i64 a, .int .i64 b], .agg #[.int .i64 p, .int .i64 q]] w fun e w' => e = .returned (.int .i64 (fcI a b p q)) ∧ Below w.heap.size w w' := by
  have A := Below.nw w (.cells #[.int .i64 a, .int .i64 b] 27); have A2 := Below.nw (w.alloc (.cells #[.int .i64 a, .int .i64 b] 27)) (.cells #[.int .i64 p, .int .i64 q] 27); have N := (Bx2.new w (.int .i64 a) (.int .i64 b) 27).below A2; have Q := Bx2.new (w.alloc (.cells #[.int .i64 a, .int .i64 b] 27)) (.int .i64 p) (.int .i64 q) 27; simp only [World.size_alloc] at Q; have B := A.trans (A2.mono A.size); clear A A2
  replace E := E.below B
  cases h1 : okF a b
  · rw [fcI_1 h1]
    go_enter Tryd.func13, Tryd.ntmps13
    go_upto_region 1 with fail
    generalize (w.alloc (.cells #[.int .i64 a, .int .i64 b] 27)).alloc (.cells #[.int .i64 p, .int .i64 q] 27) = v at *
    obtain ⟨n0, n1, n2, n3, n4⟩ := id N; obtain ⟨m0, m1, m2, m3, m4⟩ := id Q
    go_wp2_with fail
    refine (fracOk_any a b u _ E).mono ?_
    rintro e v2 ⟨rfl, hbl⟩
    rw [h1]
    clear n0 n1 n2 n3 n4 m0 m1 m2 m3 m4
    replace N := N.below hbl; replace Q := Q.below hbl; replace B := B.trans (hbl.mono B.size); clear hbl
    go_wp2_with fail
    go_ret
    exact ⟨rfl, B⟩
  cases h2 : okF p q
  · rw [fcI_2 h2]
    go_enter Tryd.func13, Tryd.ntmps13
    go_upto_region 1 with fail
    generalize (w.alloc (.cells #[.int .i64 a, .int .i64 b] 27)).alloc (.cells #[.int .i64 p, .int .i64 q] 27) = v at *
    obtain ⟨n0, n1, n2, n3, n4⟩ := id N; obtain ⟨m0, m1, m2, m3, m4⟩ := id Q
    go_wp2_with fail
    refine (fracOk_any a b u _ E).mono ?_
    rintro e v2 ⟨rfl, hbl⟩
    rw [h1]
    clear n0 n1 n2 n3 n4 m0 m1 m2 m3 m4
    replace E := E.below hbl
    replace N := N.below hbl; replace Q := Q.below hbl; replace B := B.trans (hbl.mono B.size); clear hbl
    obtain ⟨n0, n1, n2, n3, n4⟩ := id N; obtain ⟨m0, m1, m2, m3, m4⟩ := id Q
    go_wp2_with fail
    refine (fracOk_any p q u _ E).mono ?_
    rintro e v3 ⟨rfl, hbl⟩
    rw [h2]
    clear n0 n1 n2 n3 n4 m0 m1 m2 m3 m4
    replace N := N.below hbl; replace Q := Q.below hbl; replace B := B.trans (hbl.mono B.size); clear hbl
    go_wp2_with fail
    go_ret
    exact ⟨rfl, B⟩
  rw [fcI_t h1 h2]
  obtain ⟨k1, k2, _⟩ := okF_t h1
  obtain ⟨k3, k4, _⟩ := okF_t h2
  have CC := fun w' => against_any a b p q w' k1 k2 k3 k4
  generalize cmpF a b p q = x at *
  go_enter Tryd.func13, Tryd.ntmps13
  go_upto_region 1 with fail
  generalize (w.alloc (.cells #[.int .i64 a, .int .i64 b] 27)).alloc (.cells #[.int .i64 p, .int .i64 q] 27) = v at *
  obtain ⟨n0, n1, n2, n3, n4⟩ := id N; obtain ⟨m0, m1, m2, m3, m4⟩ := id Q
  go_wp2_with fail
  refine (fracOk_any a b u _ E).mono ?_
  rintro e v2 ⟨rfl, hbl⟩
  rw [h1]
  clear n0 n1 n2 n3 n4 m0 m1 m2 m3 m4
  replace E := E.below hbl
  replace N := N.below hbl; replace Q := Q.below hbl; replace B := B.trans (hbl.mono B.size); clear hbl
  obtain ⟨n0, n1, n2, n3, n4⟩ := id N; obtain ⟨m0, m1, m2, m3, m4⟩ := id Q
  go_wp2_with fail
  refine (fracOk_any p q u _ E).mono ?_
  rintro e v3 ⟨rfl, hbl⟩
  rw [h2]
  clear n0 n1 n2 n3 n4 m0 m1 m2 m3 m4
  replace N := N.below hbl; replace Q := Q.below hbl; replace B := B.trans (hbl.mono B.size); clear hbl
  obtain ⟨n0, n1, n2, n3, n4⟩ := id N; obtain ⟨m0, m1, m2, m3, m4⟩ := id Q
  go_wp2_with fail
  refine (CC _).mono ?_
  rintro e v4 ⟨rfl, hbl⟩
  clear n0 n1 n2 n3 n4 m0 m1 m2 m3 m4
  replace N := N.below hbl; replace Q := Q.below hbl; replace B := B.trans (hbl.mono B.size); clear hbl
  go_wp2_with fail
  go_ret
  exact ⟨rfl, B⟩
end Go.Proofs.YtblappilppfkiaaDoor
namespace Go.Proofs.YtblappilppfkiaaDoor
open Go.RowKit
set_option linter.unusedVariables false
def Rx4 (w : World) (k : Nat) (a b c d : Int) : Prop := k < w.heap.size ∧ w.cell? ⟨k, 0, none⟩ = some (.int .i64 a) ∧ w.cell? ⟨k, 1, none⟩ = some (.int .i64 b) ∧ w.cell? ⟨k, 2, none⟩ = some (.int .i64 c) ∧ w.cell? ⟨k, 3, none⟩ = some (.int .i64 d) ∧ w.frozen? ⟨k, 0, none⟩ = false ∧ w.frozen? ⟨k, 1, none⟩ = false ∧ w.frozen? ⟨k, 2, none⟩ = false ∧ w.frozen? ⟨k, 3, none⟩ = false
theorem Rx4.belowB {k B : Nat} {w w' : World} {a b c d : Int} (h : Rx4 w k a b c d) (hw : Below B w w') (hk : k < B) : Rx4 w' k a b c d := by
  obtain ⟨h0, h1, h2, h3, h4, f1, f2, f3, f4⟩ := h
  exact ⟨Nat.lt_of_lt_of_le h0 hw.size, by rw [hw.cell (p := ⟨k, 0, none⟩) hk]; exact h1, by rw [hw.cell (p := ⟨k, 1, none⟩) hk]; exact h2, by rw [hw.cell (p := ⟨k, 2, none⟩) hk]; exact h3, by rw [hw.cell (p := ⟨k, 3, none⟩) hk]; exact h4, by rw [hw.frozen (p := ⟨k, 0, none⟩) hk]; exact f1, by rw [hw.frozen (p := ⟨k, 1, none⟩) hk]; exact f2, by rw [hw.frozen (p := ⟨k, 2, none⟩) hk]; exact f3, by rw [hw.frozen (p := ⟨k, 3, none⟩) hk]; exact f4⟩
theorem Rx4.below {k : Nat} {w w' : World} {a b c d : Int} (h : Rx4 w k a b c d) (hw : Below w.heap.size w w') : Rx4 w' k a b c d := h.belowB hw h.1
theorem Rx4.new (w : World) (a b c d : Int) (T : TypeId) : Rx4 (w.alloc (.cells #[.int .i64 a, .int .i64 b, .int .i64 c, .int .i64 d] T)) w.heap.size a b c d := ⟨by simp, by simp, by simp, by simp, by simp, by simp, by simp, by simp, by simp⟩
theorem Rx4.drew {k : Nat} {w : World} {a b c d : Int} (h : Rx4 w k a b c d) : Rx4 w.drew k a b c d := h
def put4 (w : World) (k : Nat) (a b c d : Int) : World := (((w.setCell ⟨k, 0, none⟩ (.int .i64 a)).setCell ⟨k, 1, none⟩ (.int .i64 b)).setCell ⟨k, 2, none⟩ (.int .i64 c)).setCell ⟨k, 3, none⟩ (.int .i64 d)
theorem Rx4.put {k : Nat} {w : World} {a b c d : Int} (h : Rx4 w k a b c d) (a' b' c' d' : Int) : Rx4 (put4 w k a' b' c' d') k a' b' c' d' := by
  obtain ⟨h0, h1, h2, h3, h4, f1, f2, f3, f4⟩ := h
  have n0 : ∀ (W : World) (i j : Nat) (u : Value), i ≠ j → (W.setCell ⟨k, i, none⟩ u).cell? ⟨k, j, none⟩ = W.cell? ⟨k, j, none⟩ := fun W i j u hij => World.cell?_setCell_other _ _ _ _ (by intro e; exact hij (congrArg Addr.off e))
  refine ⟨by simpa [put4] using h0, ?_, ?_, ?_, ?_, by simpa [put4] using f1, by simpa [put4] using f2, by simpa [put4] using f3, by simpa [put4] using f4⟩
  · unfold put4; rw [n0 _ _ _ _ (by decide), n0 _ _ _ _ (by decide), n0 _ _ _ _ (by decide)]; exact World.cell?_setCell_same _ _ _ h1
  · unfold put4; rw [n0 _ _ _ _ (by decide), n0 _ _ _ _ (by decide)]; exact World.cell?_setCell_same _ _ _ (by rw [n0 _ _ _ _ (by decide)]; exact h2)
  · unfold put4; rw [n0 _ _ _ _ (by decide)]; exact World.cell?_setCell_same _ _ _ (by rw [n0 _ _ _ _ (by decide), n0 _ _ _ _ (by decide)]; exact h3)
  · unfold put4; exact World.cell?_setCell_same _ _ _ (by rw [n0 _ _ _ _ (by decide), n0 _ _ _ _ (by decide), n0 _ _ _ _ (by decide)]; exact h4)
theorem Below.put4 {B k : Nat} {w wr : World} (h : Below B w wr) (hk : B ≤ k) (a b c d : Int) : Below B w (put4 wr k a b c d) := (((h.setCell (p := ⟨k, 0, none⟩) hk _).setCell (p := ⟨k, 1, none⟩) hk _).setCell (p := ⟨k, 2, none⟩) hk _).setCell (p := ⟨k, 3, none⟩) hk _
theorem Below.nw2 {B : Nat} {w wr : World} (h : Below B w wr) (hB : B ≤ wr.heap.size) (o : Obj) : Below B w (wr.alloc o) := h.alloc hB o
def loP (a b p q x y : Int) : Int := if cmpF a b p q < 0 then y else x
set_option maxHeartbeats 4000000 in
theorem chosenL_any (a b p q : Int) (w : World) (ha : -4000000000000 ≤ a ∧ a ≤ 4000000000000) (hb : 1 ≤ b ∧ b ≤ 4000000000000) (hp : -4000000000000 ≤ p ∧ p ≤ 4000000000000) (hq : 1 ≤ q ∧ q ≤ 4000000000000) : Calls Tryd.prog 63 #[.agg #[.int .i64 a, .int .i64 b], .agg #[.int .i64 p, .int .i64 q], .func (.func 64) #[] #[]] w fun e w' => e = .returned (.agg #[.int .i64 (loP a b p q a p), .int .i64 (loP a b p q b q)]) ∧ Below w.heap.size w w' := by
  have A0 := Below.nw w (.cells #[.int .i64 a, .int .i64 b] 27)
  have A1 := Below.nw (w.alloc (.cells #[.int .i64 a, .int .i64 b] 27)) (.cells #[.int .i64 p, .int .i64 q] 27)
  have A2 := Below.nw ((w.alloc (.cells #[.int .i64 a, .int .i64 b] 27)).alloc (.cells #[.int .i64 p, .int .i64 q] 27)) (.cells #[.int .i64 0, .int .i64 0] 27)
  have N := ((Bx2.new w (.int .i64 a) (.int .i64 b) 27).below A1).below A2
  have Q := (Bx2.new (w.alloc (.cells #[.int .i64 a, .int .i64 b] 27)) (.int .i64 p) (.int .i64 q) 27).below A2
  have R := Bx2.new ((w.alloc (.cells #[.int .i64 a, .int .i64 b] 27)).alloc (.cells #[.int .i64 p, .int .i64 q] 27)) (.int .i64 0) (.int .i64 0) 27
  have B := (A0.trans (A1.mono A0.size)).trans (A2.mono (A0.trans (A1.mono A0.size)).size)
  simp only [World.size_alloc] at Q R
  clear A0 A1 A2
  have hj : w.heap.size ≤ w.heap.size + 1 + 1 := by omega
  have C1 := fun w' => fbelow_any a b p q w' ha hb hp hq
  unfold loP
  by_cases hc : cmpF a b p q < 0
  · rw [if_pos hc, if_pos hc]
    simp only [decide_eq_true hc] at C1
    clear hc
    go_enter Tryd.func63, Tryd.ntmps63
    go_upto_region 1 with fail
    generalize (((w.alloc (.cells #[.int .i64 a, .int .i64 b] 27)).alloc (.cells #[.int .i64 p, .int .i64 q] 27)).alloc (.cells #[.int .i64 0, .int .i64 0] 27)) = v at *
    generalize w.heap.size + 1 + 1 = jr at *
    obtain ⟨n0, n1, n2, n3, n4⟩ := id N
    obtain ⟨m0, m1, m2, m3, m4⟩ := id Q
    go_wp2_with fail
    refine (C1 _).mono ?_
    rintro e v2 ⟨rfl, hbl⟩
    clear n0 n1 n2 n3 n4 m0 m1 m2 m3 m4
    replace N := N.below hbl
    replace Q := Q.below hbl
    replace R := R.below hbl
    replace B := B.trans (hbl.mono B.size)
    clear hbl
    have RR := (R.set0 (.int .i64 p)).set1 (.int .i64 q)
    have BB := (B.setCell (p := ⟨jr, 0, none⟩) hj (.int .i64 p)).setCell (p := ⟨jr, 1, none⟩) hj (.int .i64 q)
    obtain ⟨n0, n1, n2, n3, n4⟩ := id N
    obtain ⟨m0, m1, m2, m3, m4⟩ := id Q
    obtain ⟨r0, r1, r2, r3, r4⟩ := id R
    go_wp2_with fail
    clear n0 n1 n2 n3 n4 m0 m1 m2 m3 m4 r0 r1 r2 r3 r4 N Q R B
    generalize (v2.setCell ⟨jr, 0, none⟩ (.int .i64 p)).setCell ⟨jr, 1, none⟩ (.int .i64 q) = v3 at *
    obtain ⟨r0, r1, r2, r3, r4⟩ := id RR
    exact bodyPost_ret (v := (.agg #[.int .i64 p, .int .i64 q])) (by simp (maxDischargeDepth := 6) [results, Tryd.results63, go_sem, *]) rfl ⟨rfl, BB⟩
  · rw [if_neg hc, if_neg hc]
    simp only [decide_eq_false hc] at C1
    clear hc
    go_enter Tryd.func63, Tryd.ntmps63
    go_upto_region 1 with fail
    generalize (((w.alloc (.cells #[.int .i64 a, .int .i64 b] 27)).alloc (.cells #[.int .i64 p, .int .i64 q] 27)).alloc (.cells #[.int .i64 0, .int .i64 0] 27)) = v at *
    generalize w.heap.size + 1 + 1 = jr at *
    obtain ⟨n0, n1, n2, n3, n4⟩ := id N
    obtain ⟨m0, m1, m2, m3, m4⟩ := id Q
    go_wp2_with fail
    refine (C1 _).mono ?_
    rintro e v2 ⟨rfl, hbl⟩
    clear n0 n1 n2 n3 n4 m0 m1 m2 m3 m4
    replace N := N.below hbl
    replace Q := Q.below hbl
    replace R := R.below hbl
    replace B := B.trans (hbl.mono B.size)
    clear hbl
    have RR := (R.set0 (.int .i64 a)).set1 (.int .i64 b)
    have BB := (B.setCell (p := ⟨jr, 0, none⟩) hj (.int .i64 a)).setCell (p := ⟨jr, 1, none⟩) hj (.int .i64 b)
    obtain ⟨n0, n1, n2, n3, n4⟩ := id N
    obtain ⟨m0, m1, m2, m3, m4⟩ := id Q
    obtain ⟨r0, r1, r2, r3, r4⟩ := id R
    go_wp2_with fail
    clear n0 n1 n2 n3 n4 m0 m1 m2 m3 m4 r0 r1 r2 r3 r4 N Q R B
    generalize (v2.setCell ⟨jr, 0, none⟩ (.int .i64 a)).setCell ⟨jr, 1, none⟩ (.int .i64 b) = v3 at *
    obtain ⟨r0, r1, r2, r3, r4⟩ := id RR
    exact bodyPost_ret (v := (.agg #[.int .i64 a, .int .i64 b])) (by simp (maxDischargeDepth := 6) [results, Tryd.results63, go_sem, *]) rfl ⟨rfl, BB⟩

def hiP (a b p q x y : Int) : Int := if 0 < cmpF a b p q then y else x
set_option maxHeartbeats 4000000 in
theorem chosenH_any (a b p q : Int) (w : World) (ha : -4000000000000 ≤ a ∧ a ≤ 4000000000000) (hb : 1 ≤ b ∧ b ≤ 4000000000000) (hp : -4000000000000 ≤ p ∧ p ≤ 4000000000000) (hq : 1 ≤ q ∧ q ≤ 4000000000000) : Calls Tryd.prog 63 #[.agg #[.int .i64 a, .int .i64 b], .agg #[.int .i64 p, .int .i64 q], .func (.func 65) #[] #[]] w fun e w' => e = .returned (.agg #[.int .i64 (hiP a b p q a p), .int .i64 (hiP a b p q b q)]) ∧ Below w.heap.size w w' := by
  have A0 := Below.nw w (.cells #[.int .i64 a, .int .i64 b] 27)
  have A1 := Below.nw (w.alloc (.cells #[.int .i64 a, .int .i64 b] 27)) (.cells #[.int .i64 p, .int .i64 q] 27)
  have A2 := Below.nw ((w.alloc (.cells #[.int .i64 a, .int .i64 b] 27)).alloc (.cells #[.int .i64 p, .int .i64 q] 27)) (.cells #[.int .i64 0, .int .i64 0] 27)
  have N := ((Bx2.new w (.int .i64 a) (.int .i64 b) 27).below A1).below A2
  have Q := (Bx2.new (w.alloc (.cells #[.int .i64 a, .int .i64 b] 27)) (.int .i64 p) (.int .i64 q) 27).below A2
  have R := Bx2.new ((w.alloc (.cells #[.int .i64 a, .int .i64 b] 27)).alloc (.cells #[.int .i64 p, .int .i64 q] 27)) (.int .i64 0) (.int .i64 0) 27
  have B := (A0.trans (A1.mono A0.size)).trans (A2.mono (A0.trans (A1.mono A0.size)).size)
  simp only [World.size_alloc] at Q R
  clear A0 A1 A2
  have hj : w.heap.size ≤ w.heap.size + 1 + 1 := by omega
  have C1 := fun w' => fabove_any a b p q w' ha hb hp hq
  unfold hiP
  by_cases hc : 0 < cmpF a b p q
  · rw [if_pos hc, if_pos hc]
    simp only [decide_eq_true hc] at C1
    clear hc
    go_enter Tryd.func63, Tryd.ntmps63
    go_upto_region 1 with fail
    generalize (((w.alloc (.cells #[.int .i64 a, .int .i64 b] 27)).alloc (.cells #[.int .i64 p, .int .i64 q] 27)).alloc (.cells #[.int .i64 0, .int .i64 0] 27)) = v at *
    generalize w.heap.size + 1 + 1 = jr at *
    obtain ⟨n0, n1, n2, n3, n4⟩ := id N
    obtain ⟨m0, m1, m2, m3, m4⟩ := id Q
    go_wp2_with fail
    refine (C1 _).mono ?_
    rintro e v2 ⟨rfl, hbl⟩
    clear n0 n1 n2 n3 n4 m0 m1 m2 m3 m4
    replace N := N.below hbl
    replace Q := Q.below hbl
    replace R := R.below hbl
    replace B := B.trans (hbl.mono B.size)
    clear hbl
    have RR := (R.set0 (.int .i64 p)).set1 (.int .i64 q)
    have BB := (B.setCell (p := ⟨jr, 0, none⟩) hj (.int .i64 p)).setCell (p := ⟨jr, 1, none⟩) hj (.int .i64 q)
    obtain ⟨n0, n1, n2, n3, n4⟩ := id N
    obtain ⟨m0, m1, m2, m3, m4⟩ := id Q
    obtain ⟨r0, r1, r2, r3, r4⟩ := id R
    go_wp2_with fail
    clear n0 n1 n2 n3 n4 m0 m1 m2 m3 m4 r0 r1 r2 r3 r4 N Q R B
    generalize (v2.setCell ⟨jr, 0, none⟩ (.int .i64 p)).setCell ⟨jr, 1, none⟩ (.int .i64 q) = v3 at *
    obtain ⟨r0, r1, r2, r3, r4⟩ := id RR
    exact bodyPost_ret (v := (.agg #[.int .i64 p, .int .i64 q])) (by simp (maxDischargeDepth := 6) [results, Tryd.results63, go_sem, *]) rfl ⟨rfl, BB⟩
  · rw [if_neg hc, if_neg hc]
    simp only [decide_eq_false hc] at C1
    clear hc
    go_enter Tryd.func63, Tryd.ntmps63
    go_upto_region 1 with fail
    generalize (((w.alloc (.cells #[.int .i64 a, .int .i64 b] 27)).alloc (.cells #[.int .i64 p, .int .i64 q] 27)).alloc (.cells #[.int .i64 0, .int .i64 0] 27)) = v at *
    generalize w.heap.size + 1 + 1 = jr at *
    obtain ⟨n0, n1, n2, n3, n4⟩ := id N
    obtain ⟨m0, m1, m2, m3, m4⟩ := id Q
    go_wp2_with fail
    refine (C1 _).mono ?_
    rintro e v2 ⟨rfl, hbl⟩
    clear n0 n1 n2 n3 n4 m0 m1 m2 m3 m4
    replace N := N.below hbl
    replace Q := Q.below hbl
    replace R := R.below hbl
    replace B := B.trans (hbl.mono B.size)
    clear hbl
    have RR := (R.set0 (.int .i64 a)).set1 (.int .i64 b)
    have BB := (B.setCell (p := ⟨jr, 0, none⟩) hj (.int .i64 a)).setCell (p := ⟨jr, 1, none⟩) hj (.int .i64 b)
    obtain ⟨n0, n1, n2, n3, n4⟩ := id N
    obtain ⟨m0, m1, m2, m3, m4⟩ := id Q
    obtain ⟨r0, r1, r2, r3, r4⟩ := id R
    go_wp2_with fail
    clear n0 n1 n2 n3 n4 m0 m1 m2 m3 m4 r0 r1 r2 r3 r4 N Q R B
    generalize (v2.setCell ⟨jr, 0, none⟩ (.int .i64 a)).setCell ⟨jr, 1, none⟩ (.int .i64 b) = v3 at *
    obtain ⟨r0, r1, r2, r3, r4⟩ := id RR
    exact bodyPost_ret (v := (.agg #[.int .i64 a, .int .i64 b])) (by simp (maxDischargeDepth := 6) [results, Tryd.results63, go_sem, *]) rfl ⟨rfl, BB⟩
end Go.Proofs.YtblappilppfkiaaDoor
