/- The contract of impl.Unpack. -/
import Derived.Test.YtbflhhifkhoapaaH9
import Derived.Test.YtbflhhifkhoapaaG8
import Derived.Test.YtbflhhifkhoapaaG10
import Derived.WalkKit
import Derived.WalkSpells
import Derived.WalkLawsBesides
import Derived.Deep.RegionHeld
namespace Go.Proofs.Ytbflhhifkhoapaa
open Go.RowKit
set_option linter.unusedVariables false
set_option maxHeartbeats 4000000 in
theorem implUnpack_short (a : Option Addr) (n c : Nat) (f : Nat → Int) (w : World) (h : n < 2) :
    Calls Try.prog 12 #[.slice a n c] w fun e w' => e = .returned (uv (unp f n)) ∧ Below w.heap.size w w' := by
  have HU : Hid (unp f n = (1, zT)) := if_pos h
  have hmf : ∀ (fn : Fn) (first cap : Array Value) (w : World), (Instr.makeFunc fn first cap).run Try.prog w = .ok (.func fn first cap) w := fun _ _ _ _ => rfl
  have R := (Box8.new w 0 0 0 0 0 0 0 ⟨#[]⟩ 27).alloc (.cells #[.int .i64 0] 3)
  have T := (Thaw8.new w 0 0 0 0 0 0 0 ⟨#[]⟩ 27).alloc (by simp) (.cells #[.int .i64 0] 3)
  have K : ((w.alloc (.cells #[.int .i64 0, .int .i64 0, .int .i64 0, .int .i64 0, .int .i64 0, .int .i64 0, .int .i64 0, .string ⟨#[]⟩] 27)).alloc (.cells #[.int .i64 0] 3)).cell? ⟨w.heap.size + 1, 0, none⟩ = some (.int .i64 0) := by simp
  have Z : ((w.alloc (.cells #[.int .i64 0, .int .i64 0, .int .i64 0, .int .i64 0, .int .i64 0, .int .i64 0, .int .i64 0, .string ⟨#[]⟩] 27)).alloc (.cells #[.int .i64 0] 3)).frozen? ⟨w.heap.size + 1, 0, none⟩ = false := by simp
  have B := ((Below.refl w.heap.size w).alloc (Nat.le_refl _) (.cells #[.int .i64 0, .int .i64 0, .int .i64 0, .int .i64 0, .int .i64 0, .int .i64 0, .int .i64 0, .string ⟨#[]⟩] 27)).alloc (by simp) (.cells #[.int .i64 0] 3)
  have S : w.heap.size + 1 < ((w.alloc (.cells #[.int .i64 0, .int .i64 0, .int .i64 0, .int .i64 0, .int .i64 0, .int .i64 0, .int .i64 0, .string ⟨#[]⟩] 27)).alloc (.cells #[.int .i64 0] 3)).heap.size := by simp
  go_enter_defers Try.func12, Try.ntmps12
  go_wp2_with fail
  refine (checked_short a n c _ h).mono ?_
  rintro e v ⟨rfl, hb⟩
  replace T := T.belowB hb R.1
  replace R := R.below hb
  replace K := (hb.cell (p := ⟨w.heap.size + 1, 0, none⟩) S).trans K
  replace Z := (hb.frozen (p := ⟨w.heap.size + 1, 0, none⟩) S).trans Z
  replace B := B.trans (hb.mono B.size)
  clear hb S
  (try go_wp2_with fail)
  refine leaves_cons (f := 43) (args := #[.pointer (some ⟨w.heap.size, 0, none⟩), .pointer (some ⟨w.heap.size + 1, 0, none⟩)]) (by simp) (by simp [go_sem]) ?_
  refine (catch_gave w.heap.size (w.heap.size + 1) 0 0 0 0 0 0 0 ⟨#[]⟩ 1 0 [] _ R T K Z (by omega)).mono ?_
  rintro e u' w'' ⟨rfl, rfl, RB, CB, BB⟩
  have BF := B.trans (BB w.heap.size (Nat.le_refl _) (Nat.le_succ _))
  clear R T K Z B BB
  obtain ⟨a0, a1, a2, a3, a4, a5, a6, a7, a8⟩ := RB
  simp [Leaves, settle, results, Try.results12, go_sem, a1, a2, a3, a4, a5, a6, a7, a8, CB]
  exact ⟨by rw [HU.out]; rfl, BF⟩
set_option maxHeartbeats 4000000 in
theorem implUnpack_check (b off n c : Nat) (f : Nat → Int) (w : World) (hn : 2 ≤ n) (hc : n ≤ c) (hcm : c ≤ maxLen) (hf : Byts w b off n f) (hr : ∀ i, i < n → 0 ≤ f i ∧ f i ≤ 255) (h : ¬ chk f (n - 1) = f (n - 1)) :
    Calls Try.prog 12 #[.slice (some ⟨b, off, none⟩) n c] w fun e w' => e = .returned (uv (unp f n)) ∧ Below w.heap.size w w' := by
  have HU : Hid (unp f n = (2, zT)) := by rw [Hid, unp, if_neg (by omega), if_pos h]
  have hmf : ∀ (fn : Fn) (first cap : Array Value) (w : World), (Instr.makeFunc fn first cap).run Try.prog w = .ok (.func fn first cap) w := fun _ _ _ _ => rfl
  have R := (Box8.new w 0 0 0 0 0 0 0 ⟨#[]⟩ 27).alloc (.cells #[.int .i64 0] 3)
  have T := (Thaw8.new w 0 0 0 0 0 0 0 ⟨#[]⟩ 27).alloc (by simp) (.cells #[.int .i64 0] 3)
  have K : ((w.alloc (.cells #[.int .i64 0, .int .i64 0, .int .i64 0, .int .i64 0, .int .i64 0, .int .i64 0, .int .i64 0, .string ⟨#[]⟩] 27)).alloc (.cells #[.int .i64 0] 3)).cell? ⟨w.heap.size + 1, 0, none⟩ = some (.int .i64 0) := by simp
  have Z : ((w.alloc (.cells #[.int .i64 0, .int .i64 0, .int .i64 0, .int .i64 0, .int .i64 0, .int .i64 0, .int .i64 0, .string ⟨#[]⟩] 27)).alloc (.cells #[.int .i64 0] 3)).frozen? ⟨w.heap.size + 1, 0, none⟩ = false := by simp
  have B := ((Below.refl w.heap.size w).alloc (Nat.le_refl _) (.cells #[.int .i64 0, .int .i64 0, .int .i64 0, .int .i64 0, .int .i64 0, .int .i64 0, .int .i64 0, .string ⟨#[]⟩] 27)).alloc (by simp) (.cells #[.int .i64 0] 3)
  have S : w.heap.size + 1 < ((w.alloc (.cells #[.int .i64 0, .int .i64 0, .int .i64 0, .int .i64 0, .int .i64 0, .int .i64 0, .int .i64 0, .string ⟨#[]⟩] 27)).alloc (.cells #[.int .i64 0] 3)).heap.size := by simp
  have D := hf.below B hf.1
  have CC := checked_f b off n c f _ hn hc hcm D hr h
  clear D hf hr h
  go_enter_defers Try.func12, Try.ntmps12
  go_wp2_with fail
  refine CC.mono ?_
  rintro e v ⟨rfl, hb⟩
  replace T := T.belowB hb R.1
  replace R := R.below hb
  replace K := (hb.cell (p := ⟨w.heap.size + 1, 0, none⟩) S).trans K
  replace Z := (hb.frozen (p := ⟨w.heap.size + 1, 0, none⟩) S).trans Z
  replace B := B.trans (hb.mono B.size)
  replace S : w.heap.size + 1 < v.heap.size := Nat.lt_of_lt_of_le S hb.size
  clear hb S CC
  (try go_wp2_with fail)
  refine leaves_cons (f := 43) (args := #[.pointer (some ⟨w.heap.size, 0, none⟩), .pointer (some ⟨w.heap.size + 1, 0, none⟩)]) (by simp) (by simp [go_sem]) ?_
  refine (catch_gave w.heap.size (w.heap.size + 1) 0 0 0 0 0 0 0 ⟨#[]⟩ 2 0 [] _ R T K Z (by omega)).mono ?_
  rintro e u' w'' ⟨rfl, rfl, RB, CB, BB⟩
  have BF := B.trans (BB w.heap.size (Nat.le_refl _) (Nat.le_succ _))
  clear R T K Z B BB
  obtain ⟨a0, a1, a2, a3, a4, a5, a6, a7, a8⟩ := RB
  simp [Leaves, settle, results, Try.results12, go_sem, a1, a2, a3, a4, a5, a6, a7, a8, CB]
  exact ⟨by rw [HU.out]; rfl, BF⟩
set_option maxHeartbeats 4000000 in
theorem implUnpack_pan (b off n c : Nat) (f : Nat → Int) (w : World) (hn : 2 ≤ n) (hc : n ≤ c) (hcm : c ≤ maxLen) (hf : Byts w b off n f) (hr : ∀ i, i < n → 0 ≤ f i ∧ f i ≤ 255) (h : chk f (n - 1) = f (n - 1)) (code : Int) (hU : unp f n = (code, zT)) (CM : ∀ p v, Rd v p (some ⟨b, off, none⟩) (n - 1) c f 0 → Calls Try.prog 46 #[.pointer (some ⟨p, 0, none⟩)] v fun e w' => e = .panicked (gave code) ∧ But p v w') :
    Calls Try.prog 12 #[.slice (some ⟨b, off, none⟩) n c] w fun e w' => e = .returned (uv (unp f n)) ∧ Below w.heap.size w w' := by
  have HU : Hid (unp f n = (code, zT)) := hU
  clear hU
  have hmf : ∀ (fn : Fn) (first cap : Array Value) (w : World), (Instr.makeFunc fn first cap).run Try.prog w = .ok (.func fn first cap) w := fun _ _ _ _ => rfl
  have R := (Box8.new w 0 0 0 0 0 0 0 ⟨#[]⟩ 27).alloc (.cells #[.int .i64 0] 3)
  have T := (Thaw8.new w 0 0 0 0 0 0 0 ⟨#[]⟩ 27).alloc (by simp) (.cells #[.int .i64 0] 3)
  have K : ((w.alloc (.cells #[.int .i64 0, .int .i64 0, .int .i64 0, .int .i64 0, .int .i64 0, .int .i64 0, .int .i64 0, .string ⟨#[]⟩] 27)).alloc (.cells #[.int .i64 0] 3)).cell? ⟨w.heap.size + 1, 0, none⟩ = some (.int .i64 0) := by simp
  have Z : ((w.alloc (.cells #[.int .i64 0, .int .i64 0, .int .i64 0, .int .i64 0, .int .i64 0, .int .i64 0, .int .i64 0, .string ⟨#[]⟩] 27)).alloc (.cells #[.int .i64 0] 3)).frozen? ⟨w.heap.size + 1, 0, none⟩ = false := by simp
  have B := ((Below.refl w.heap.size w).alloc (Nat.le_refl _) (.cells #[.int .i64 0, .int .i64 0, .int .i64 0, .int .i64 0, .int .i64 0, .int .i64 0, .int .i64 0, .string ⟨#[]⟩] 27)).alloc (by simp) (.cells #[.int .i64 0] 3)
  have S : w.heap.size + 1 < ((w.alloc (.cells #[.int .i64 0, .int .i64 0, .int .i64 0, .int .i64 0, .int .i64 0, .int .i64 0, .int .i64 0, .string ⟨#[]⟩] 27)).alloc (.cells #[.int .i64 0] 3)).heap.size := by simp
  have D := hf.below B hf.1
  have bw : b < w.heap.size := hf.1
  have CC := checked_t b off n c f _ hn hc hcm D hr h
  have HRD : Hid (∀ v, Below w.heap.size w v → Rd (v.alloc (.cells #[.slice (some ⟨b, off, none⟩) (n - 1) c, .int .i64 0] 69)) v.heap.size (some ⟨b, off, none⟩) (n - 1) c f 0) := fun v hv => ⟨by simp, by simp, by simp, by simp, by omega, by omega, by omega, hcm, (show SrcB (v.alloc (.cells #[.slice (some ⟨b, off, none⟩) (n - 1) c, .int .i64 0] 69)) (some ⟨b, off, none⟩) (n - 1) f from .inr ⟨b, off, rfl, by have := hv.size; simp; omega, fun i hi => ((hf.below hv bw).below ((Below.refl v.heap.size v).alloc (Nat.le_refl _) (.cells #[.slice (some ⟨b, off, none⟩) (n - 1) c, .int .i64 0] 69)) (by have := hv.size; omega)).2 i (by omega)⟩), (fun b' o' e => by simp at e; have := hv.size; omega), fun i hi => hr i (by omega)⟩
  clear D hf hr h
  go_enter_defers Try.func12, Try.ntmps12
  go_wp2_with fail
  refine CC.mono ?_
  rintro e v ⟨rfl, hb⟩
  replace T := T.belowB hb R.1
  replace R := R.below hb
  replace K := (hb.cell (p := ⟨w.heap.size + 1, 0, none⟩) S).trans K
  replace Z := (hb.frozen (p := ⟨w.heap.size + 1, 0, none⟩) S).trans Z
  replace B := B.trans (hb.mono B.size)
  replace S : w.heap.size + 1 < v.heap.size := Nat.lt_of_lt_of_le S hb.size
  clear hb CC
  have RD := HRD.out v B
  have hJv : w.heap.size < v.heap.size := R.1
  have A0 := (Below.refl v.heap.size v).alloc (Nat.le_refl _) (.cells #[.slice (some ⟨b, off, none⟩) (n - 1) c, .int .i64 0] 69)
  replace T := T.belowB A0 R.1
  replace R := R.below A0
  replace K := (A0.cell (p := ⟨w.heap.size + 1, 0, none⟩) S).trans K
  replace Z := (A0.frozen (p := ⟨w.heap.size + 1, 0, none⟩) S).trans Z
  replace B := B.trans (A0.mono B.size)
  have S2 : w.heap.size + 1 < (v.alloc (.cells #[.slice (some ⟨b, off, none⟩) (n - 1) c, .int .i64 0] 69)).heap.size := Nat.lt_of_lt_of_le S A0.size
  have n1 : w.heap.size ≠ v.heap.size := by omega
  have n2 : w.heap.size + 1 ≠ v.heap.size := by omega
  clear A0 HRD
  go_wp2_with fail
  refine (CM _ _ RD).mono ?_
  rintro e v2 ⟨rfl, hb⟩
  replace K := (hb.cell (o := 0) S2 n2).trans K
  replace Z := (hb.frozen (o := 0) S2 n2).trans Z
  replace T := T.but hb R.1 n1
  replace B := B.trans (hb.below (B := w.heap.size) (by omega) B.size)
  replace R := R.but hb n1
  clear hb S S2 CM RD
  (try go_wp2_with fail)
  refine leaves_cons (f := 43) (args := #[.pointer (some ⟨w.heap.size, 0, none⟩), .pointer (some ⟨w.heap.size + 1, 0, none⟩)]) (by simp) (by simp [go_sem]) ?_
  refine (catch_gave w.heap.size (w.heap.size + 1) 0 0 0 0 0 0 0 ⟨#[]⟩ code 0 [] _ R T K Z (by omega)).mono ?_
  rintro e u' w'' ⟨rfl, rfl, RB, CB, BB⟩
  have BF := B.trans (BB w.heap.size (Nat.le_refl _) (Nat.le_succ _))
  clear R T K Z B BB
  obtain ⟨a0, a1, a2, a3, a4, a5, a6, a7, a8⟩ := RB
  simp [Leaves, settle, results, Try.results12, go_sem, a1, a2, a3, a4, a5, a6, a7, a8, CB]
  exact ⟨by rw [HU.out]; rfl, BF⟩
set_option maxHeartbeats 8000000 in
theorem implUnpack_long (b off n c : Nat) (f : Nat → Int) (w : World) (hn : 2 ≤ n) (hc : n ≤ c) (hcm : c ≤ maxLen) (hf : Byts w b off n f) (hr : ∀ i, i < n → 0 ≤ f i ∧ f i ≤ 255) (h : chk f (n - 1) = f (n - 1)) (k fr tu no lo hi sl x : Int) (s : ByteArray) (hs : s.size ≤ 1048576) (CM : ∀ p v, Rd v p (some ⟨b, off, none⟩) (n - 1) c f 0 → Calls Try.prog 46 #[.pointer (some ⟨p, 0, none⟩)] v fun e w' => e = .returned (.agg #[.int .i64 k, .int .i64 fr, .int .i64 tu, .int .i64 no, .int .i64 lo, .int .i64 hi, .int .i64 sl, .string s]) ∧ Rd w' p (some ⟨b, off, none⟩) (n - 1) c f x ∧ But p v w') (hx : x < (n : Int) - 1) :
    Calls Try.prog 12 #[.slice (some ⟨b, off, none⟩) n c] w fun e w' => e = .returned (uv (6, zT)) ∧ Below w.heap.size w w' := by
  have hmf : ∀ (fn : Fn) (first cap : Array Value) (w : World), (Instr.makeFunc fn first cap).run Try.prog w = .ok (.func fn first cap) w := fun _ _ _ _ => rfl
  have R := (Box8.new w 0 0 0 0 0 0 0 ⟨#[]⟩ 27).alloc (.cells #[.int .i64 0] 3)
  have T := (Thaw8.new w 0 0 0 0 0 0 0 ⟨#[]⟩ 27).alloc (by simp) (.cells #[.int .i64 0] 3)
  have K : ((w.alloc (.cells #[.int .i64 0, .int .i64 0, .int .i64 0, .int .i64 0, .int .i64 0, .int .i64 0, .int .i64 0, .string ⟨#[]⟩] 27)).alloc (.cells #[.int .i64 0] 3)).cell? ⟨w.heap.size + 1, 0, none⟩ = some (.int .i64 0) := by simp
  have Z : ((w.alloc (.cells #[.int .i64 0, .int .i64 0, .int .i64 0, .int .i64 0, .int .i64 0, .int .i64 0, .int .i64 0, .string ⟨#[]⟩] 27)).alloc (.cells #[.int .i64 0] 3)).frozen? ⟨w.heap.size + 1, 0, none⟩ = false := by simp
  have B := ((Below.refl w.heap.size w).alloc (Nat.le_refl _) (.cells #[.int .i64 0, .int .i64 0, .int .i64 0, .int .i64 0, .int .i64 0, .int .i64 0, .int .i64 0, .string ⟨#[]⟩] 27)).alloc (by simp) (.cells #[.int .i64 0] 3)
  have S : w.heap.size + 1 < ((w.alloc (.cells #[.int .i64 0, .int .i64 0, .int .i64 0, .int .i64 0, .int .i64 0, .int .i64 0, .int .i64 0, .string ⟨#[]⟩] 27)).alloc (.cells #[.int .i64 0] 3)).heap.size := by simp
  have D := hf.below B hf.1
  have bw : b < w.heap.size := hf.1
  have CC := checked_t b off n c f _ hn hc hcm D hr h
  have HRD : Hid (∀ v, Below w.heap.size w v → Rd (v.alloc (.cells #[.slice (some ⟨b, off, none⟩) (n - 1) c, .int .i64 0] 69)) v.heap.size (some ⟨b, off, none⟩) (n - 1) c f 0) := fun v hv => ⟨by simp, by simp, by simp, by simp, by omega, by omega, by omega, hcm, (show SrcB (v.alloc (.cells #[.slice (some ⟨b, off, none⟩) (n - 1) c, .int .i64 0] 69)) (some ⟨b, off, none⟩) (n - 1) f from .inr ⟨b, off, rfl, by have := hv.size; simp; omega, fun i hi => ((hf.below hv bw).below ((Below.refl v.heap.size v).alloc (Nat.le_refl _) (.cells #[.slice (some ⟨b, off, none⟩) (n - 1) c, .int .i64 0] 69)) (by have := hv.size; omega)).2 i (by omega)⟩), (fun b' o' e => by simp at e; have := hv.size; omega), fun i hi => hr i (by omega)⟩
  clear D hf hr h
  go_enter_defers Try.func12, Try.ntmps12
  go_wp2_with fail
  refine CC.mono ?_
  rintro e v ⟨rfl, hb⟩
  replace T := T.belowB hb R.1
  replace R := R.below hb
  replace K := (hb.cell (p := ⟨w.heap.size + 1, 0, none⟩) S).trans K
  replace Z := (hb.frozen (p := ⟨w.heap.size + 1, 0, none⟩) S).trans Z
  replace B := B.trans (hb.mono B.size)
  replace S : w.heap.size + 1 < v.heap.size := Nat.lt_of_lt_of_le S hb.size
  clear hb CC
  have RD := HRD.out v B
  have hJv : w.heap.size < v.heap.size := R.1
  have A0 := (Below.refl v.heap.size v).alloc (Nat.le_refl _) (.cells #[.slice (some ⟨b, off, none⟩) (n - 1) c, .int .i64 0] 69)
  replace T := T.belowB A0 R.1
  replace R := R.below A0
  replace K := (A0.cell (p := ⟨w.heap.size + 1, 0, none⟩) S).trans K
  replace Z := (A0.frozen (p := ⟨w.heap.size + 1, 0, none⟩) S).trans Z
  replace B := B.trans (A0.mono B.size)
  have S2 : w.heap.size + 1 < (v.alloc (.cells #[.slice (some ⟨b, off, none⟩) (n - 1) c, .int .i64 0] 69)).heap.size := Nat.lt_of_lt_of_le S A0.size
  have n1 : w.heap.size ≠ v.heap.size := by omega
  have n2 : w.heap.size + 1 ≠ v.heap.size := by omega
  clear A0 HRD
  go_wp2_with fail
  refine (CM _ _ RD).mono ?_
  rintro e v2 ⟨rfl, RD2, hb⟩
  replace K := (hb.cell (o := 0) S2 n2).trans K
  replace Z := (hb.frozen (o := 0) S2 n2).trans Z
  replace T := T.but hb R.1 n1
  replace B := B.trans (hb.below (B := w.heap.size) (by omega) B.size)
  have S3 : w.heap.size + 1 < v2.heap.size := Nat.lt_of_lt_of_le S2 hb.2.2.2.1
  replace R := R.but hb n1
  clear hb S S2 CM RD
  have r1 := RD2.2.1
  have r2 := RD2.2.2.1
  have hcast : ((n - 1 : Nat) : Int) = (n : Int) - 1 := by omega
  have vl : v.heap.size < v2.heap.size := RD2.1
  clear RD2
  go_wp2_with fail
  refine (giveUp_any _ _).mono ?_
  rintro e w' ⟨rfl, rfl⟩
  (try go_wp2_with fail)
  have A1 := (Below.refl v2.heap.size v2).alloc (Nat.le_refl _) (.cells #[.int .i64 k, .int .i64 fr, .int .i64 tu, .int .i64 no, .int .i64 lo, .int .i64 hi, .int .i64 sl, .string s] 27)
  replace T := T.belowB A1 R.1
  replace R := R.below A1
  replace K := (A1.cell (p := ⟨w.heap.size + 1, 0, none⟩) S3).trans K
  replace Z := (A1.frozen (p := ⟨w.heap.size + 1, 0, none⟩) S3).trans Z
  replace B := B.trans (A1.mono B.size)
  have S4 : w.heap.size + 1 < (v2.alloc (.cells #[.int .i64 k, .int .i64 fr, .int .i64 tu, .int .i64 no, .int .i64 lo, .int .i64 hi, .int .i64 sl, .string s] 27)).heap.size := Nat.lt_of_lt_of_le S3 A1.size
  refine leaves_cons (f := 43) (args := #[.pointer (some ⟨w.heap.size, 0, none⟩), .pointer (some ⟨w.heap.size + 1, 0, none⟩)]) (by simp) (by simp [go_sem]) ?_
  refine (catch_gave w.heap.size (w.heap.size + 1) 0 0 0 0 0 0 0 ⟨#[]⟩ 6 0 [] _ R T K Z (by omega)).mono ?_
  rintro e u' w'' ⟨rfl, rfl, RB, CB, BB⟩
  have BF := B.trans (BB w.heap.size (Nat.le_refl _) (Nat.le_succ _))
  clear R T K Z B BB
  obtain ⟨a0, a1, a2, a3, a4, a5, a6, a7, a8⟩ := RB
  simp [Leaves, settle, results, Try.results12, go_sem, a1, a2, a3, a4, a5, a6, a7, a8, CB]
  exact ⟨rfl, BF⟩
set_option maxHeartbeats 8000000 in
theorem implUnpack_bad (b off n c : Nat) (f : Nat → Int) (w : World) (hn : 2 ≤ n) (hc : n ≤ c) (hcm : c ≤ maxLen) (hf : Byts w b off n f) (hr : ∀ i, i < n → 0 ≤ f i ∧ f i ≤ 255) (h : chk f (n - 1) = f (n - 1)) (k fr tu no lo hi sl x : Int) (s : ByteArray) (hs : s.size ≤ 1048576) (CM : ∀ p v, Rd v p (some ⟨b, off, none⟩) (n - 1) c f 0 → Calls Try.prog 46 #[.pointer (some ⟨p, 0, none⟩)] v fun e w' => e = .returned (.agg #[.int .i64 k, .int .i64 fr, .int .i64 tu, .int .i64 no, .int .i64 lo, .int .i64 hi, .int .i64 sl, .string s]) ∧ Rd w' p (some ⟨b, off, none⟩) (n - 1) c f x ∧ But p v w') (hx : ¬ x < (n : Int) - 1) (hm : msgB k fr tu no lo hi sl s = false) :
    Calls Try.prog 12 #[.slice (some ⟨b, off, none⟩) n c] w fun e w' => e = .returned (uv (5, zT)) ∧ Below w.heap.size w w' := by
  have hmf : ∀ (fn : Fn) (first cap : Array Value) (w : World), (Instr.makeFunc fn first cap).run Try.prog w = .ok (.func fn first cap) w := fun _ _ _ _ => rfl
  have R := (Box8.new w 0 0 0 0 0 0 0 ⟨#[]⟩ 27).alloc (.cells #[.int .i64 0] 3)
  have T := (Thaw8.new w 0 0 0 0 0 0 0 ⟨#[]⟩ 27).alloc (by simp) (.cells #[.int .i64 0] 3)
  have K : ((w.alloc (.cells #[.int .i64 0, .int .i64 0, .int .i64 0, .int .i64 0, .int .i64 0, .int .i64 0, .int .i64 0, .string ⟨#[]⟩] 27)).alloc (.cells #[.int .i64 0] 3)).cell? ⟨w.heap.size + 1, 0, none⟩ = some (.int .i64 0) := by simp
  have Z : ((w.alloc (.cells #[.int .i64 0, .int .i64 0, .int .i64 0, .int .i64 0, .int .i64 0, .int .i64 0, .int .i64 0, .string ⟨#[]⟩] 27)).alloc (.cells #[.int .i64 0] 3)).frozen? ⟨w.heap.size + 1, 0, none⟩ = false := by simp
  have B := ((Below.refl w.heap.size w).alloc (Nat.le_refl _) (.cells #[.int .i64 0, .int .i64 0, .int .i64 0, .int .i64 0, .int .i64 0, .int .i64 0, .int .i64 0, .string ⟨#[]⟩] 27)).alloc (by simp) (.cells #[.int .i64 0] 3)
  have S : w.heap.size + 1 < ((w.alloc (.cells #[.int .i64 0, .int .i64 0, .int .i64 0, .int .i64 0, .int .i64 0, .int .i64 0, .int .i64 0, .string ⟨#[]⟩] 27)).alloc (.cells #[.int .i64 0] 3)).heap.size := by simp
  have D := hf.below B hf.1
  have bw : b < w.heap.size := hf.1
  have CC := checked_t b off n c f _ hn hc hcm D hr h
  have HRD : Hid (∀ v, Below w.heap.size w v → Rd (v.alloc (.cells #[.slice (some ⟨b, off, none⟩) (n - 1) c, .int .i64 0] 69)) v.heap.size (some ⟨b, off, none⟩) (n - 1) c f 0) := fun v hv => ⟨by simp, by simp, by simp, by simp, by omega, by omega, by omega, hcm, (show SrcB (v.alloc (.cells #[.slice (some ⟨b, off, none⟩) (n - 1) c, .int .i64 0] 69)) (some ⟨b, off, none⟩) (n - 1) f from .inr ⟨b, off, rfl, by have := hv.size; simp; omega, fun i hi => ((hf.below hv bw).below ((Below.refl v.heap.size v).alloc (Nat.le_refl _) (.cells #[.slice (some ⟨b, off, none⟩) (n - 1) c, .int .i64 0] 69)) (by have := hv.size; omega)).2 i (by omega)⟩), (fun b' o' e => by simp at e; have := hv.size; omega), fun i hi => hr i (by omega)⟩
  clear D hf hr h
  go_enter_defers Try.func12, Try.ntmps12
  go_wp2_with fail
  refine CC.mono ?_
  rintro e v ⟨rfl, hb⟩
  replace T := T.belowB hb R.1
  replace R := R.below hb
  replace K := (hb.cell (p := ⟨w.heap.size + 1, 0, none⟩) S).trans K
  replace Z := (hb.frozen (p := ⟨w.heap.size + 1, 0, none⟩) S).trans Z
  replace B := B.trans (hb.mono B.size)
  replace S : w.heap.size + 1 < v.heap.size := Nat.lt_of_lt_of_le S hb.size
  clear hb CC
  have RD := HRD.out v B
  have hJv : w.heap.size < v.heap.size := R.1
  have A0 := (Below.refl v.heap.size v).alloc (Nat.le_refl _) (.cells #[.slice (some ⟨b, off, none⟩) (n - 1) c, .int .i64 0] 69)
  replace T := T.belowB A0 R.1
  replace R := R.below A0
  replace K := (A0.cell (p := ⟨w.heap.size + 1, 0, none⟩) S).trans K
  replace Z := (A0.frozen (p := ⟨w.heap.size + 1, 0, none⟩) S).trans Z
  replace B := B.trans (A0.mono B.size)
  have S2 : w.heap.size + 1 < (v.alloc (.cells #[.slice (some ⟨b, off, none⟩) (n - 1) c, .int .i64 0] 69)).heap.size := Nat.lt_of_lt_of_le S A0.size
  have n1 : w.heap.size ≠ v.heap.size := by omega
  have n2 : w.heap.size + 1 ≠ v.heap.size := by omega
  clear A0 HRD
  go_wp2_with fail
  refine (CM _ _ RD).mono ?_
  rintro e v2 ⟨rfl, RD2, hb⟩
  replace K := (hb.cell (o := 0) S2 n2).trans K
  replace Z := (hb.frozen (o := 0) S2 n2).trans Z
  replace T := T.but hb R.1 n1
  replace B := B.trans (hb.below (B := w.heap.size) (by omega) B.size)
  have S3 : w.heap.size + 1 < v2.heap.size := Nat.lt_of_lt_of_le S2 hb.2.2.2.1
  replace R := R.but hb n1
  clear hb S S2 CM RD
  have r1 := RD2.2.1
  have r2 := RD2.2.2.1
  have hcast : ((n - 1 : Nat) : Int) = (n : Int) - 1 := by omega
  have vl : v.heap.size < v2.heap.size := RD2.1
  have CK := fun w' => implMsgOk_any k fr tu no lo hi sl s w' hs
  rw [hm] at CK
  clear RD2
  go_wp2_with fail
  refine (CK _).mono ?_
  rintro e v3 ⟨rfl, hb⟩
  have A1 := (Below.refl v2.heap.size v2).alloc (Nat.le_refl _) (.cells #[.int .i64 k, .int .i64 fr, .int .i64 tu, .int .i64 no, .int .i64 lo, .int .i64 hi, .int .i64 sl, .string s] 27)
  replace T := T.belowB A1 R.1
  replace R := R.below A1
  replace K := (A1.cell (p := ⟨w.heap.size + 1, 0, none⟩) S3).trans K
  replace Z := (A1.frozen (p := ⟨w.heap.size + 1, 0, none⟩) S3).trans Z
  replace B := B.trans (A1.mono B.size)
  have S4 : w.heap.size + 1 < (v2.alloc (.cells #[.int .i64 k, .int .i64 fr, .int .i64 tu, .int .i64 no, .int .i64 lo, .int .i64 hi, .int .i64 sl, .string s] 27)).heap.size := Nat.lt_of_lt_of_le S3 A1.size
  have MB := (Box8.new v2 k fr tu no lo hi sl s 27).below hb
  replace T := T.belowB hb R.1
  replace R := R.below hb
  replace K := (hb.cell (p := ⟨w.heap.size + 1, 0, none⟩) S4).trans K
  replace Z := (hb.frozen (p := ⟨w.heap.size + 1, 0, none⟩) S4).trans Z
  replace B := B.trans (hb.mono B.size)
  clear hb CK A1
  clear MB
  go_wp2_with fail
  refine (giveUp_any _ _).mono ?_
  rintro e w' ⟨rfl, rfl⟩
  (try go_wp2_with fail)
  refine leaves_cons (f := 43) (args := #[.pointer (some ⟨w.heap.size, 0, none⟩), .pointer (some ⟨w.heap.size + 1, 0, none⟩)]) (by simp) (by simp [go_sem]) ?_
  refine (catch_gave w.heap.size (w.heap.size + 1) 0 0 0 0 0 0 0 ⟨#[]⟩ 5 0 [] _ R T K Z (by omega)).mono ?_
  rintro e u' w'' ⟨rfl, rfl, RB, CB, BB⟩
  have BF := B.trans (BB w.heap.size (Nat.le_refl _) (Nat.le_succ _))
  clear R T K Z B BB
  obtain ⟨a0, a1, a2, a3, a4, a5, a6, a7, a8⟩ := RB
  simp [Leaves, settle, results, Try.results12, go_sem, a1, a2, a3, a4, a5, a6, a7, a8, CB]
  exact ⟨rfl, BF⟩
set_option maxHeartbeats 8000000 in
theorem implUnpack_well (b off n c : Nat) (f : Nat → Int) (w : World) (hn : 2 ≤ n) (hc : n ≤ c) (hcm : c ≤ maxLen) (hf : Byts w b off n f) (hr : ∀ i, i < n → 0 ≤ f i ∧ f i ≤ 255) (h : chk f (n - 1) = f (n - 1)) (k fr tu no lo hi sl x : Int) (s : ByteArray) (hs : s.size ≤ 1048576) (CM : ∀ p v, Rd v p (some ⟨b, off, none⟩) (n - 1) c f 0 → Calls Try.prog 46 #[.pointer (some ⟨p, 0, none⟩)] v fun e w' => e = .returned (.agg #[.int .i64 k, .int .i64 fr, .int .i64 tu, .int .i64 no, .int .i64 lo, .int .i64 hi, .int .i64 sl, .string s]) ∧ Rd w' p (some ⟨b, off, none⟩) (n - 1) c f x ∧ But p v w') (hx : ¬ x < (n : Int) - 1) (hm : msgB k fr tu no lo hi sl s = true) :
    Calls Try.prog 12 #[.slice (some ⟨b, off, none⟩) n c] w fun e w' => e = .returned (uv (0, (k, fr, tu, no, lo, hi, sl, s))) ∧ Below w.heap.size w w' := by
  have hmf : ∀ (fn : Fn) (first cap : Array Value) (w : World), (Instr.makeFunc fn first cap).run Try.prog w = .ok (.func fn first cap) w := fun _ _ _ _ => rfl
  have R := (Box8.new w 0 0 0 0 0 0 0 ⟨#[]⟩ 27).alloc (.cells #[.int .i64 0] 3)
  have T := (Thaw8.new w 0 0 0 0 0 0 0 ⟨#[]⟩ 27).alloc (by simp) (.cells #[.int .i64 0] 3)
  have K : ((w.alloc (.cells #[.int .i64 0, .int .i64 0, .int .i64 0, .int .i64 0, .int .i64 0, .int .i64 0, .int .i64 0, .string ⟨#[]⟩] 27)).alloc (.cells #[.int .i64 0] 3)).cell? ⟨w.heap.size + 1, 0, none⟩ = some (.int .i64 0) := by simp
  have Z : ((w.alloc (.cells #[.int .i64 0, .int .i64 0, .int .i64 0, .int .i64 0, .int .i64 0, .int .i64 0, .int .i64 0, .string ⟨#[]⟩] 27)).alloc (.cells #[.int .i64 0] 3)).frozen? ⟨w.heap.size + 1, 0, none⟩ = false := by simp
  have B := ((Below.refl w.heap.size w).alloc (Nat.le_refl _) (.cells #[.int .i64 0, .int .i64 0, .int .i64 0, .int .i64 0, .int .i64 0, .int .i64 0, .int .i64 0, .string ⟨#[]⟩] 27)).alloc (by simp) (.cells #[.int .i64 0] 3)
  have S : w.heap.size + 1 < ((w.alloc (.cells #[.int .i64 0, .int .i64 0, .int .i64 0, .int .i64 0, .int .i64 0, .int .i64 0, .int .i64 0, .string ⟨#[]⟩] 27)).alloc (.cells #[.int .i64 0] 3)).heap.size := by simp
  have D := hf.below B hf.1
  have bw : b < w.heap.size := hf.1
  have CC := checked_t b off n c f _ hn hc hcm D hr h
  have HRD : Hid (∀ v, Below w.heap.size w v → Rd (v.alloc (.cells #[.slice (some ⟨b, off, none⟩) (n - 1) c, .int .i64 0] 69)) v.heap.size (some ⟨b, off, none⟩) (n - 1) c f 0) := fun v hv => ⟨by simp, by simp, by simp, by simp, by omega, by omega, by omega, hcm, (show SrcB (v.alloc (.cells #[.slice (some ⟨b, off, none⟩) (n - 1) c, .int .i64 0] 69)) (some ⟨b, off, none⟩) (n - 1) f from .inr ⟨b, off, rfl, by have := hv.size; simp; omega, fun i hi => ((hf.below hv bw).below ((Below.refl v.heap.size v).alloc (Nat.le_refl _) (.cells #[.slice (some ⟨b, off, none⟩) (n - 1) c, .int .i64 0] 69)) (by have := hv.size; omega)).2 i (by omega)⟩), (fun b' o' e => by simp at e; have := hv.size; omega), fun i hi => hr i (by omega)⟩
  clear D hf hr h
  go_enter_defers Try.func12, Try.ntmps12
  go_wp2_with fail
  refine CC.mono ?_
  rintro e v ⟨rfl, hb⟩
  replace T := T.belowB hb R.1
  replace R := R.below hb
  replace K := (hb.cell (p := ⟨w.heap.size + 1, 0, none⟩) S).trans K
  replace Z := (hb.frozen (p := ⟨w.heap.size + 1, 0, none⟩) S).trans Z
  replace B := B.trans (hb.mono B.size)
  replace S : w.heap.size + 1 < v.heap.size := Nat.lt_of_lt_of_le S hb.size
  clear hb CC
  have RD := HRD.out v B
  have hJv : w.heap.size < v.heap.size := R.1
  have A0 := (Below.refl v.heap.size v).alloc (Nat.le_refl _) (.cells #[.slice (some ⟨b, off, none⟩) (n - 1) c, .int .i64 0] 69)
  replace T := T.belowB A0 R.1
  replace R := R.below A0
  replace K := (A0.cell (p := ⟨w.heap.size + 1, 0, none⟩) S).trans K
  replace Z := (A0.frozen (p := ⟨w.heap.size + 1, 0, none⟩) S).trans Z
  replace B := B.trans (A0.mono B.size)
  have S2 : w.heap.size + 1 < (v.alloc (.cells #[.slice (some ⟨b, off, none⟩) (n - 1) c, .int .i64 0] 69)).heap.size := Nat.lt_of_lt_of_le S A0.size
  have n1 : w.heap.size ≠ v.heap.size := by omega
  have n2 : w.heap.size + 1 ≠ v.heap.size := by omega
  clear A0 HRD
  go_wp2_with fail
  refine (CM _ _ RD).mono ?_
  rintro e v2 ⟨rfl, RD2, hb⟩
  replace K := (hb.cell (o := 0) S2 n2).trans K
  replace Z := (hb.frozen (o := 0) S2 n2).trans Z
  replace T := T.but hb R.1 n1
  replace B := B.trans (hb.below (B := w.heap.size) (by omega) B.size)
  have S3 : w.heap.size + 1 < v2.heap.size := Nat.lt_of_lt_of_le S2 hb.2.2.2.1
  replace R := R.but hb n1
  clear hb S S2 CM RD
  have r1 := RD2.2.1
  have r2 := RD2.2.2.1
  have hcast : ((n - 1 : Nat) : Int) = (n : Int) - 1 := by omega
  have vl : v.heap.size < v2.heap.size := RD2.1
  have CK := fun w' => implMsgOk_any k fr tu no lo hi sl s w' hs
  rw [hm] at CK
  clear RD2
  go_wp2_with fail
  refine (CK _).mono ?_
  rintro e v3 ⟨rfl, hb⟩
  have A1 := (Below.refl v2.heap.size v2).alloc (Nat.le_refl _) (.cells #[.int .i64 k, .int .i64 fr, .int .i64 tu, .int .i64 no, .int .i64 lo, .int .i64 hi, .int .i64 sl, .string s] 27)
  replace T := T.belowB A1 R.1
  replace R := R.below A1
  replace K := (A1.cell (p := ⟨w.heap.size + 1, 0, none⟩) S3).trans K
  replace Z := (A1.frozen (p := ⟨w.heap.size + 1, 0, none⟩) S3).trans Z
  replace B := B.trans (A1.mono B.size)
  have S4 : w.heap.size + 1 < (v2.alloc (.cells #[.int .i64 k, .int .i64 fr, .int .i64 tu, .int .i64 no, .int .i64 lo, .int .i64 hi, .int .i64 sl, .string s] 27)).heap.size := Nat.lt_of_lt_of_le S3 A1.size
  have MB := (Box8.new v2 k fr tu no lo hi sl s 27).below hb
  replace T := T.belowB hb R.1
  replace R := R.below hb
  replace K := (hb.cell (p := ⟨w.heap.size + 1, 0, none⟩) S4).trans K
  replace Z := (hb.frozen (p := ⟨w.heap.size + 1, 0, none⟩) S4).trans Z
  replace B := B.trans (hb.mono B.size)
  clear hb CK A1
  have hv2 : v2.heap.size ≠ w.heap.size := by omega
  have hv3 : v2.heap.size ≠ w.heap.size + 1 := by omega
  obtain ⟨b0, b1, b2, b3, b4, b5, b6, b7, b8⟩ := id MB
  obtain ⟨a0, a1, a2, a3, a4, a5, a6, a7, a8⟩ := id R
  obtain ⟨t0, t1, t2, t3, t4, t5, t6, t7⟩ := id T
  go_wp2_with fail
  clear b0 b1 b2 b3 b4 b5 b6 b7 b8 a0 a1 a2 a3 a4 a5 a6 a7 a8 t0 t1 t2 t3 t4 t5 t6 t7
  have hJJ : w.heap.size + 1 ≠ w.heap.size := by omega
  have hJK : w.heap.size ≠ w.heap.size + 1 := by omega
  have RF := Box8.setO ((((((((R.set0 k).set1 fr).set2 tu).set3 no).set4 lo).set5 hi).set6 sl).set7 s) hJJ 0 (.int .i64 0)
  have CF : (((((((((v3.setCell ⟨w.heap.size, 0, none⟩ (.int .i64 k)).setCell ⟨w.heap.size, 1, none⟩ (.int .i64 fr)).setCell ⟨w.heap.size, 2, none⟩ (.int .i64 tu)).setCell ⟨w.heap.size, 3, none⟩ (.int .i64 no)).setCell ⟨w.heap.size, 4, none⟩ (.int .i64 lo)).setCell ⟨w.heap.size, 5, none⟩ (.int .i64 hi)).setCell ⟨w.heap.size, 6, none⟩ (.int .i64 sl)).setCell ⟨w.heap.size, 7, none⟩ (.string s)).setCell ⟨w.heap.size + 1, 0, none⟩ (.int .i64 0)).cell? ⟨w.heap.size + 1, 0, none⟩ = some (.int .i64 0) := World.cell?_setCell_same _ _ _ (show ((((((((v3.setCell ⟨w.heap.size, 0, none⟩ (.int .i64 k)).setCell ⟨w.heap.size, 1, none⟩ (.int .i64 fr)).setCell ⟨w.heap.size, 2, none⟩ (.int .i64 tu)).setCell ⟨w.heap.size, 3, none⟩ (.int .i64 no)).setCell ⟨w.heap.size, 4, none⟩ (.int .i64 lo)).setCell ⟨w.heap.size, 5, none⟩ (.int .i64 hi)).setCell ⟨w.heap.size, 6, none⟩ (.int .i64 sl)).setCell ⟨w.heap.size, 7, none⟩ (.string s)).cell? ⟨w.heap.size + 1, 0, none⟩ = some (.int .i64 0) by
    rw [cell_far _ _ _ _ _ _ hJK, cell_far _ _ _ _ _ _ hJK, cell_far _ _ _ _ _ _ hJK, cell_far _ _ _ _ _ _ hJK, cell_far _ _ _ _ _ _ hJK, cell_far _ _ _ _ _ _ hJK, cell_far _ _ _ _ _ _ hJK, cell_far _ _ _ _ _ _ hJK]; exact K)
  have BF : Below w.heap.size w (((((((((v3.setCell ⟨w.heap.size, 0, none⟩ (.int .i64 k)).setCell ⟨w.heap.size, 1, none⟩ (.int .i64 fr)).setCell ⟨w.heap.size, 2, none⟩ (.int .i64 tu)).setCell ⟨w.heap.size, 3, none⟩ (.int .i64 no)).setCell ⟨w.heap.size, 4, none⟩ (.int .i64 lo)).setCell ⟨w.heap.size, 5, none⟩ (.int .i64 hi)).setCell ⟨w.heap.size, 6, none⟩ (.int .i64 sl)).setCell ⟨w.heap.size, 7, none⟩ (.string s)).setCell ⟨w.heap.size + 1, 0, none⟩ (.int .i64 0)) := (((((((((B.setCell (Nat.le_refl _) _).setCell (Nat.le_refl _) _).setCell (Nat.le_refl _) _).setCell (Nat.le_refl _) _).setCell (Nat.le_refl _) _).setCell (Nat.le_refl _) _).setCell (Nat.le_refl _) _).setCell (Nat.le_refl _) _).setCell (Nat.le_succ _) _)
  clear R T K Z B MB
  generalize (((((((((v3.setCell ⟨w.heap.size, 0, none⟩ (.int .i64 k)).setCell ⟨w.heap.size, 1, none⟩ (.int .i64 fr)).setCell ⟨w.heap.size, 2, none⟩ (.int .i64 tu)).setCell ⟨w.heap.size, 3, none⟩ (.int .i64 no)).setCell ⟨w.heap.size, 4, none⟩ (.int .i64 lo)).setCell ⟨w.heap.size, 5, none⟩ (.int .i64 hi)).setCell ⟨w.heap.size, 6, none⟩ (.int .i64 sl)).setCell ⟨w.heap.size, 7, none⟩ (.string s)).setCell ⟨w.heap.size + 1, 0, none⟩ (.int .i64 0)) = wf at *
  refine leaves_cons (f := 43) (args := #[.pointer (some ⟨w.heap.size, 0, none⟩), .pointer (some ⟨w.heap.size + 1, 0, none⟩)]) (by simp) (by simp [go_sem]) ?_
  refine (catch_idle w.heap.size (w.heap.size + 1) _).mono ?_
  rintro e u' w'' ⟨rfl, rfl, rfl⟩
  obtain ⟨a0, a1, a2, a3, a4, a5, a6, a7, a8⟩ := RF
  simp [Leaves, settle, results, Try.results12, go_sem, a1, a2, a3, a4, a5, a6, a7, a8, CF]
  exact ⟨rfl, BF⟩
end Go.Proofs.Ytbflhhifkhoapaa
