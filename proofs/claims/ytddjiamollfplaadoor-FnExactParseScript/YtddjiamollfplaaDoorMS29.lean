/- The words of fields (the program). -/
import Derived.Test.YtddjiamollfplaaDoorMS25
namespace Go.Proofs.YtddjiamollfplaaDoor
open Go.RowKit
set_option linter.unusedVariables false
theorem fieldsOf_any (j : Nat) (h1 : 1 ≤ j) (h2 : j ≤ 14) (ob : Nat) (nd tt a b : Int) (tx : ByteArray) (p : Option Addr) (n c : Nat) (hp : (p = none ∧ n = 0) ∨ ∃ b off, p = some ⟨b, off, none⟩) (hn : n ≤ 8) :
 ∃ fid, (fnV j = .func (.func fid) #[] #[] ∧ ∀ (xs : Array Value) (v : World), (callFunc fid xs).run Tryd.prog v = .ok (.enter fid xs) v) ∧ ∀ (w : World), Bo w ob #[.int .i64 (j : Int), .int .i64 nd, .int .i64 tt, .int .i64 a, .int .i64 b, .string tx, .slice p n c] →
  Calls Tryd.prog fid #[.pointer (some ⟨ob, 0, none⟩)] w fun e w' => ∃ u, e = .returned (.agg #[u, opX ob (j : Int)]) ∧ w'.ownsRow w.heap.size 129 1 u (opA ob p n (j : Int)).length (ptR (opA ob p n (j : Int))) ∧ Below w.heap.size w w' := by
 rcases (show j = 1 ∨ j = 2 ∨ j = 3 ∨ j = 4 ∨ j = 5 ∨ j = 6 ∨ j = 7 ∨ j = 8 ∨ j = 9 ∨ j = 10 ∨ j = 11 ∨ j = 12 ∨ j = 13 ∨ j = 14 by omega) with rfl | rfl | rfl | rfl | rfl | rfl | rfl | rfl | rfl | rfl | rfl | rfl | rfl | rfl
 ·exact ⟨96, ⟨rfl, fun xs v => by kernel_rfl⟩, fun w hO => passFields_any ob 1 nd tt a b tx p n c w hO hp hn⟩
 ·exact ⟨97, ⟨rfl, fun xs v => by kernel_rfl⟩, fun w hO => nodeFields_any ob w⟩
 ·exact ⟨97, ⟨rfl, fun xs v => by kernel_rfl⟩, fun w hO => nodeFields_any ob w⟩
 ·exact ⟨98, ⟨rfl, fun xs v => by kernel_rfl⟩, fun w hO => fixFields_any ob w⟩
 ·exact ⟨99, ⟨rfl, fun xs v => by kernel_rfl⟩, fun w hO => askFields_any ob w⟩
 ·exact ⟨97, ⟨rfl, fun xs v => by kernel_rfl⟩, fun w hO => nodeFields_any ob w⟩
 ·exact ⟨97, ⟨rfl, fun xs v => by kernel_rfl⟩, fun w hO => nodeFields_any ob w⟩
 ·exact ⟨97, ⟨rfl, fun xs v => by kernel_rfl⟩, fun w hO => nodeFields_any ob w⟩
 ·exact ⟨100, ⟨rfl, fun xs v => by kernel_rfl⟩, fun w hO => sendFields_any ob w⟩
 ·exact ⟨101, ⟨rfl, fun xs v => by kernel_rfl⟩, fun w hO => flightFields_any ob w⟩
 ·exact ⟨101, ⟨rfl, fun xs v => by kernel_rfl⟩, fun w hO => flightFields_any ob w⟩
 ·exact ⟨101, ⟨rfl, fun xs v => by kernel_rfl⟩, fun w hO => flightFields_any ob w⟩
 ·exact ⟨102, ⟨rfl, fun xs v => by kernel_rfl⟩, fun w hO => moveFields_any ob w⟩
 ·exact ⟨103, ⟨rfl, fun xs v => by kernel_rfl⟩, fun w hO => forgeFields_any ob w⟩
def tpV (tb : Bool) (ad : Addr) : Value := match tb with | true => .pointer (some ad) | false => .pointer none
attribute [-go_sem] loadCells storeCells in
set_option maxRecDepth 100000 in
set_option maxHeartbeats 16000000 in
theorem many_t (pa : Option Addr) (m cp : Nat) (ad : Addr) (w : World) (hm : m ≤ 9) :
 Calls Tryd.prog 70 #[.agg #[.slice pa m cp, .pointer (some ad)]] w fun e w' => e = .returned (.int .i64 ((m : Int) + 1)) ∧ Below w.heap.size w w' := by
 have B := Below.nw w (.cells #[.slice pa m cp, .pointer (some ad)] 91)
 have L := Bo.new w #[.slice pa m cp, .pointer (some ad)] 91
 go_enter Tryd.func70, Tryd.ntmps70
 go_upto_region 1 with fail
 generalize w.alloc (.cells #[.slice pa m cp, .pointer (some ad)] 91) = v0 at *
 have c0 : v0.cell? ⟨w.heap.size, 0, none⟩ = some (.slice pa m cp) := L.cell (i := 0) rfl
 have c1 : v0.cell? ⟨w.heap.size, 1, none⟩ = some (.pointer (some ad)) := L.cell (i := 1) rfl
 go_wp2_with fail
 go_ret
 exact ⟨rfl, B⟩
attribute [-go_sem] loadCells storeCells in
set_option maxRecDepth 100000 in
set_option maxHeartbeats 16000000 in
theorem many_f (pa : Option Addr) (m cp : Nat) (w : World) (hm : m ≤ 9) :
 Calls Tryd.prog 70 #[.agg #[.slice pa m cp, .pointer none]] w fun e w' => e = .returned (.int .i64 (m : Int)) ∧ Below w.heap.size w w' := by
 have B := Below.nw w (.cells #[.slice pa m cp, .pointer none] 91)
 have L := Bo.new w #[.slice pa m cp, .pointer none] 91
 go_enter Tryd.func70, Tryd.ntmps70
 go_upto_region 1 with fail
 generalize w.alloc (.cells #[.slice pa m cp, .pointer none] 91) = v0 at *
 have c0 : v0.cell? ⟨w.heap.size, 0, none⟩ = some (.slice pa m cp) := L.cell (i := 0) rfl
 have c1 : v0.cell? ⟨w.heap.size, 1, none⟩ = some (.pointer none) := L.cell (i := 1) rfl
 go_wp2_with fail
 go_ret
 exact ⟨rfl, B⟩
end Go.Proofs.YtddjiamollfplaaDoor
