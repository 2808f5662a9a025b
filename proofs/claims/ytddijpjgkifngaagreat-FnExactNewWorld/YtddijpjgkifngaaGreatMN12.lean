/- Tables: what the laws make of them. Rows of what was heard: what the l -/
import Derived.Test.YtddijpjgkifngaaGreatMN0
import Derived.Test.YtddijpjgkifngaaGreatMN11
namespace Go.Proofs.YtddijpjgkifngaaGreat
open Go.RowKit
set_option linter.unusedVariables false
set_option maxRecDepth 100000
set_option maxHeartbeats 16000000
theorem e7 (ep us : Int) (a a' : Option Addr) (n c c' : Nat) (M : Nat → KT) (w : World) (hn : n ≤ maxLen) (h : ae w a (n * 4) (aA M)) (h' : ae w a' (n * 4) (aA M)) :
 Calls Tryz.prog 155 #[.agg #[.int .i64 ep, .int .i64 us, .slice a n c], .agg #[.int .i64 ep, .int .i64 us, .slice a' n c']] w fun e w' => e = .returned (.bool true) ∧ Below w.heap.size w w' := by
 have A0 := (Below.nw w (.cells #[.int .i64 ep, .int .i64 us, .slice a n c] 92)).alloc (by simp) (.cells #[.int .i64 ep, .int .i64 us, .slice a' n c'] 92)
 have C := gQ a a' n c c' M _ hn (h.below A0) (h'.below A0)
 clear h h'
 go_enter Tryz.func155, Tryz.ntmps155
 go_wp2_with fail
 refine C.mono ?_
 rintro e w1 ⟨rfl, hb⟩
 go_wp2_with fail
 go_ret
 exact ⟨rfl, A0.trans (hb.mono A0.size)⟩
theorem eS (x0 x1 : Int) (w : World) :
 Calls Tryz.prog 188 #[.agg #[.int .i64 x0, .int .i64 x1], .agg #[.int .i64 x0, .int .i64 x1]] w fun e w' => e = .returned (.bool true) ∧ Below w.heap.size w w' := by
 go_enter Tryz.func188, Tryz.ntmps188
 go_wp2_with fail
 go_ret
 exact ⟨rfl, zB⟩
theorem d8 (b off b' off' n c c' : Nat) (M : Nat → VT) (w : World) (hn : n ≤ maxLen) (hf : Cs w b off (n * 2) (aC M)) (hg : Cs w b' off' (n * 2) (aC M)) :
 Calls Tryz.prog 158 #[.slice (some ⟨b, off, none⟩) n c, .slice (some ⟨b', off', none⟩) n c'] w fun e w' => e = .returned (.bool true) ∧ Below w.heap.size w w' := by
 unfold maxLen at hn
 go_enter Tryz.func158, Tryz.ntmps158
 go_wp2_with fail
 go_loopw [5] (fun i wr => ∃ k : Nat, k ≤ n ∧ i = .int .i64 k ∧ Below w.heap.size w wr) (fun i _ => n - (intOf i).toNat)
 case atStart => exact ⟨0, Nat.zero_le _, rfl, Below.refl _ _⟩
 case round =>
  obtain ⟨k, hk, rfl, hB⟩ := hrel
  by_cases hlt : k < n
  ·obtain ⟨x0, x1, hM⟩ := bY M k
   obtain ⟨c0, c1⟩ := (hf.below hB hf.1).elIval hlt hM
   obtain ⟨d0, d1⟩ := (hg.below hB hg.1).elIval hlt hM
   have hb1 : b < wr.drew.heap.size := Nat.lt_of_lt_of_le hf.1 hB.size
   have hb2 : b' < wr.drew.heap.size := Nat.lt_of_lt_of_le hg.1 hB.size
   have hsz : w.heap.size ≤ wr.drew.heap.size := hB.size
   have hli : (k : Int) < (n : Int) := by omega
   clear hM
   go_wp2_with fail
   refine wp_region_held_drew (S := (fun w' => w'.cell? ⟨b, off + k * 2, none⟩ = some (.int .i64 x0) ∧ w'.cell? ⟨b, off + k * 2 + 1, none⟩ = some (.int .i64 x1) ∧ w'.cell? ⟨b', off' + k * 2, none⟩ = some (.int .i64 x0) ∧ w'.cell? ⟨b', off' + k * 2 + 1, none⟩ = some (.int .i64 x1))) (by kernel_rfl) ?_ (fun hHeld => ?_)
   ·first | exact ⟨c0, c1, d0, d1⟩ | (simp (maxDischargeDepth := 6) [go_sem, *]; done)
   refine zT8 0 ?_
   refine zQ 8 fun K hK => ?_
   go_simp
   refine (eS _ _ _).mono ?_; rintro e w' ⟨rfl, hb⟩; (replace c0 := (hb.cell (p := ⟨b, off + k * 2, none⟩) hb1).trans c0); (replace c1 := (hb.cell (p := ⟨b, off + k * 2 + 1, none⟩) hb1).trans c1); (replace d0 := (hb.cell (p := ⟨b', off' + k * 2, none⟩) hb2).trans d0); (replace d1 := (hb.cell (p := ⟨b', off' + k * 2 + 1, none⟩) hb2).trans d1)
   (try go_wp2_with fail)
   refine hK.out _ _ ?_ (fun hHeld => ?_)
   ·first | exact ⟨c0, c1, d0, d1⟩ | (simp (maxDischargeDepth := 6) [go_sem, *]; done)
   clear hK K
   (try simp only [zA])
   refine zTk 9 ?_
   refine wpAnyH_done (by kernel_rfl) ?_ _
   go_wp2_with fail
   go_roundw
   case rel => exact ⟨k + 1, by omega, by go_num, (Below.drew hB).trans (hb.mono hsz)⟩
   case measure => simp [intOf]; omega
  ·go_wp2_with fail
   go_ret
   exact ⟨rfl, hB⟩
theorem d9 (a a' : Option Addr) (c c' : Nat) (w : World) :
 Calls Tryz.prog 158 #[.slice a 0 c, .slice a' 0 c'] w fun e w' => e = .returned (.bool true) ∧ Below w.heap.size w w' := by
 go_enter Tryz.func158, Tryz.ntmps158
 go_wp2_with fail
 go_loopw [5] (fun i wr => i = .int .i64 0 ∧ w = wr) (fun i _ => 0)
 case atStart => exact ⟨rfl, rfl⟩
 case round =>
  obtain ⟨rfl, rfl⟩ := hrel
  go_wp2_with fail
  go_ret
  exact ⟨rfl, Below.refl _ _⟩
theorem eR (a a' : Option Addr) (n c c' : Nat) (M : Nat → VT) (w : World) (hn : n ≤ maxLen) (h : ae w a (n * 2) (aC M)) (h' : ae w a' (n * 2) (aC M)) :
 Calls Tryz.prog 158 #[.slice a n c, .slice a' n c'] w fun e w' => e = .returned (.bool true) ∧ Below w.heap.size w w' := by
 by_cases h0 : n = 0
 ·subst h0; exact d9 a a' c c' w
 ·rcases h with h | ⟨b, off, rfl, hp⟩
  ·omega
  ·rcases h' with h | ⟨b', off', rfl, hp'⟩
   ·omega
   ·exact d8 b off b' off' n c c' M w hn hp hp'
theorem cU (a : Option Addr) (c : Nat) (q0 : Int) (w : World) :
 Calls Tryz.prog 120 #[.slice a 0 c, .int .i64 q0] w fun e w' => e = .returned (.int .i64 q0) ∧ w = w' := by
 go_enter Tryz.func120, Tryz.ntmps120
 go_wp2_with fail
 go_loopw [1, 5] (fun q i wr => i = .int .i64 0 ∧ q = .int .i64 q0 ∧ w = wr) (fun _ i _ => 0)
 case atStart => exact ⟨rfl, rfl, by first | rfl | trivial⟩
 case round =>
  obtain ⟨rfl, rfl, rfl⟩ := hrel
  go_wp2_with fail
  go_ret
  exact ⟨rfl, rfl⟩
theorem cP (a : Option Addr) (c : Nat) (q0 : Int) (w : World) :
 Calls Tryz.prog 126 #[.slice a 0 c, .int .i64 q0] w fun e w' => e = .returned (.int .i64 q0) ∧ w = w' := by
 go_enter Tryz.func126, Tryz.ntmps126
 go_wp2_with fail
 go_loopw [1, 5] (fun q i wr => i = .int .i64 0 ∧ q = .int .i64 q0 ∧ w = wr) (fun _ i _ => 0)
 case atStart => exact ⟨rfl, rfl, by first | rfl | trivial⟩
 case round =>
  obtain ⟨rfl, rfl, rfl⟩ := hrel
  go_wp2_with fail
  go_ret
  exact ⟨rfl, rfl⟩
def RwO (w : World) (a : Option Addr) (n c sz : Nat) (F : Nat → Value) : Prop := (a = none ∧ n = 0 ∧ c = 0) ∨ ∃ b off, a = some ⟨b, off, none⟩ ∧ (n = 0 ∨ Cs w b off (n * sz) F)
theorem RwO.below {w w' : World} {a : Option Addr} {n c sz : Nat} {F : Nat → Value} (h : RwO w a n c sz F) (hb : Below w.heap.size w w') : RwO w' a n c sz F := by
 rcases h with h | ⟨b, off, e, h⟩
 ·exact .inl h
 ·exact .inr ⟨b, off, e, h.imp id fun h => h.below hb h.1⟩
theorem RwO.src {w : World} {a : Option Addr} {n c sz : Nat} {F : Nat → Value} (h : RwO w a n c sz F) : ae w a (n * sz) F := by
 rcases h with ⟨_, h, _⟩ | ⟨b, off, e, h | h⟩
 ·exact .inl (by rw [h, Nat.zero_mul])
 ·exact .inl (by rw [h, Nat.zero_mul])
 ·exact .inr ⟨b, off, e, h⟩
theorem fS (ni mo ep si : Int) (kn : Bool) (lo hi la te us : Int) (aa : Option Addr) (na ac : Nat) (AM : Nat → KT) (pa : Option Addr) (np pc : Nat) (QM : Nat → PT) (hs : Bool) (ls : Int) (ha : Option Addr) (nh hc : Nat) (HM : Nat → VT) (se : Int) (aa' pa' ha' : Option Addr) (ac' pc' hc' : Nat) (w : World) (hna : na ≤ maxLen) (sA : ae w aa (na * 4) (aA AM)) (hnp : np ≤ maxLen) (sP : ae w pa (np * 5) (ay QM)) (hnh : nh ≤ maxLen) (sH : ae w ha (nh * 2) (aC HM)) (sA' : ae w aa' (na * 4) (aA AM)) (sP' : ae w pa' (np * 5) (ay QM)) (sH' : ae w ha' (nh * 2) (aC HM)) :
 Calls Tryz.prog 103 #[.agg #[.int .i64 ni, .int .i64 mo, .int .i64 ep, .int .i64 si, .bool kn, .int .i64 lo, .int .i64 hi, .int .i64 la, .int .i64 te, .int .i64 us, .slice aa na ac, .slice pa np pc, .bool hs, .int .i64 ls, .slice ha nh hc, .int .i64 se], .agg #[.int .i64 ni, .int .i64 mo, .int .i64 ep, .int .i64 si, .bool kn, .int .i64 lo, .int .i64 hi, .int .i64 la, .int .i64 te, .int .i64 us, .slice aa' na ac', .slice pa' np pc', .bool hs, .int .i64 ls, .slice ha' nh hc', .int .i64 se]] w fun e w' => e = .returned (.bool true) ∧ Below w.heap.size w w' := by
 have A0 := Below.nw w (.cells #[.int .i64 ni, .int .i64 mo, .int .i64 ep, .int .i64 si, .bool kn, .int .i64 lo, .int .i64 hi, .int .i64 la, .int .i64 te, .int .i64 us, .slice aa na ac, .slice pa np pc, .bool hs, .int .i64 ls, .slice ha nh hc, .int .i64 se] 98)
 have A1 := Below.nw (w.alloc (.cells #[.int .i64 ni, .int .i64 mo, .int .i64 ep, .int .i64 si, .bool kn, .int .i64 lo, .int .i64 hi, .int .i64 la, .int .i64 te, .int .i64 us, .slice aa na ac, .slice pa np pc, .bool hs, .int .i64 ls, .slice ha nh hc, .int .i64 se] 98)) (.cells #[.int .i64 ni, .int .i64 mo, .int .i64 ep, .int .i64 si, .bool kn, .int .i64 lo, .int .i64 hi, .int .i64 la, .int .i64 te, .int .i64 us, .slice aa' na ac', .slice pa' np pc', .bool hs, .int .i64 ls, .slice ha' nh hc', .int .i64 se] 98)
 have N := (ar.new w (.int .i64 ni) (.int .i64 mo) (.int .i64 ep) (.int .i64 si) (.bool kn) (.int .i64 lo) (.int .i64 hi) (.int .i64 la) (.int .i64 te) (.int .i64 us) (.slice aa na ac) (.slice pa np pc) (.bool hs) (.int .i64 ls) (.slice ha nh hc) (.int .i64 se) 98).below A1
 have X := ar.new (w.alloc (.cells #[.int .i64 ni, .int .i64 mo, .int .i64 ep, .int .i64 si, .bool kn, .int .i64 lo, .int .i64 hi, .int .i64 la, .int .i64 te, .int .i64 us, .slice aa na ac, .slice pa np pc, .bool hs, .int .i64 ls, .slice ha nh hc, .int .i64 se] 98)) (.int .i64 ni) (.int .i64 mo) (.int .i64 ep) (.int .i64 si) (.bool kn) (.int .i64 lo) (.int .i64 hi) (.int .i64 la) (.int .i64 te) (.int .i64 us) (.slice aa' na ac') (.slice pa' np pc') (.bool hs) (.int .i64 ls) (.slice ha' nh hc') (.int .i64 se) 98
 have B := A0.trans (A1.mono A0.size)
 simp only [World.size_alloc] at X
 clear A0 A1
 have C1 := fun w' => fQ mo ep si w'
 have C2 := fun w' => eT kn lo hi la w'
 have C3 := fun (w' : World) (h : Below w.heap.size w w') => e7 te us aa aa' na ac ac' AM w' hna (sA.below h) (sA'.below h)
 have C4 := fun (w' : World) (h : Below w.heap.size w w') => fU pa pa' np pc pc' QM w' hnp (sP.below h) (sP'.below h)
 have C5 := fun w' => gP hs ls w'
 have C6 := fun (w' : World) (h : Below w.heap.size w w') => eR ha ha' nh hc hc' HM w' hnh (sH.below h) (sH'.below h)
 clear sA sP sH sA' sP' sH' hna hnp hnh
 have e1 : (ni != ni) = false := by simp
 have e2 : (se != se) = false := by simp
 go_enter Tryz.func103, Tryz.ntmps103
 go_upto_region 1 with fail
 generalize (w.alloc (.cells #[.int .i64 ni, .int .i64 mo, .int .i64 ep, .int .i64 si, .bool kn, .int .i64 lo, .int .i64 hi, .int .i64 la, .int .i64 te, .int .i64 us, .slice aa na ac, .slice pa np pc, .bool hs, .int .i64 ls, .slice ha nh hc, .int .i64 se] 98)).alloc (.cells #[.int .i64 ni, .int .i64 mo, .int .i64 ep, .int .i64 si, .bool kn, .int .i64 lo, .int .i64 hi, .int .i64 la, .int .i64 te, .int .i64 us, .slice aa' na ac', .slice pa' np pc', .bool hs, .int .i64 ls, .slice ha' nh hc', .int .i64 se] 98) = v at *
 have n0 : _ ∧ _ := N
 have x0 : _ ∧ _ := X
 go_wp2_with fail
 refine (C1 _).mono ?_
 clear C1
 rintro e v1 ⟨rfl, hb⟩
 clear n0
 clear x0
 replace B := B.trans (hb.mono B.size)
 replace N := N.below hb
 replace X := X.below hb
 clear hb
 have n0 : _ ∧ _ := N
 have x0 : _ ∧ _ := X
 go_wp2_with fail
 refine (C2 _).mono ?_
 clear C2
 rintro e v2 ⟨rfl, hb⟩
 clear n0
 clear x0
 replace B := B.trans (hb.mono B.size)
 replace N := N.below hb
 replace X := X.below hb
 clear hb
 have n0 : _ ∧ _ := N
 have x0 : _ ∧ _ := X
 go_wp2_with fail
 refine (C3 _ B).mono ?_
 clear C3
 rintro e v3 ⟨rfl, hb⟩
 clear n0
 clear x0
 replace B := B.trans (hb.mono B.size)
 replace N := N.below hb
 replace X := X.below hb
 clear hb
 have n0 : _ ∧ _ := N
 have x0 : _ ∧ _ := X
 go_wp2_with fail
 refine (C4 _ B).mono ?_
 clear C4
 rintro e v4 ⟨rfl, hb⟩
 clear n0
 clear x0
 replace B := B.trans (hb.mono B.size)
 replace N := N.below hb
 replace X := X.below hb
 clear hb
 have n0 : _ ∧ _ := N
 have x0 : _ ∧ _ := X
 go_wp2_with fail
 refine (C5 _).mono ?_
 clear C5
 rintro e v5 ⟨rfl, hb⟩
 clear n0
 clear x0
 replace B := B.trans (hb.mono B.size)
 replace N := N.below hb
 replace X := X.below hb
 clear hb
 have n0 : _ ∧ _ := N
 have x0 : _ ∧ _ := X
 go_wp2_with fail
 refine (C6 _ B).mono ?_
 clear C6
 rintro e v6 ⟨rfl, hb⟩
 clear n0
 clear x0
 replace B := B.trans (hb.mono B.size)
 replace N := N.below hb
 replace X := X.below hb
 clear hb
 have n0 : _ ∧ _ := N
 have x0 : _ ∧ _ := X
 go_wp2_with fail
 clear n0
 clear x0
 go_ret
 exact ⟨rfl, B⟩
end Go.Proofs.YtddijpjgkifngaaGreat
