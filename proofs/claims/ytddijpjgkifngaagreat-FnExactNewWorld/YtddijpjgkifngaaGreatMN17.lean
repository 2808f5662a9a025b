/- NodeOk in the specification. -/
import Derived.Test.YtddijpjgkifngaaGreatMN0
import Derived.Test.YtddijpjgkifngaaGreatMN11
import Derived.Test.YtddijpjgkifngaaGreatMN16
namespace Go.Proofs.YtddijpjgkifngaaGreat
open Go.RowKit
set_option linter.unusedVariables false
set_option maxRecDepth 100000
set_option maxHeartbeats 16000000
theorem dT (ni mo ep si : Int) (kn : Bool) (lo hi la te us : Int) (aa : Option Addr) (na ac : Nat) (AM : Nat → KT) (pa : Option Addr) (np pc : Nat) (QM : Nat → PT) (hs : Bool) (ls : Int) (ha : Option Addr) (nh hc : Nat) (HM : Nat → VT) (se : Int) (w : World) (hna : na ≤ maxLen) (sA : ae w aa (na * 4) (aA AM)) (hnp : np ≤ maxLen) (sP : ae w pa (np * 5) (ay QM)) (hnh : nh ≤ maxLen) (sH : ae w ha (nh * 2) (aC HM)) :
 Calls Tryz.prog 46 #[.agg #[.int .i64 ni, .int .i64 mo, .int .i64 ep, .int .i64 si, .bool kn, .int .i64 lo, .int .i64 hi, .int .i64 la, .int .i64 te, .int .i64 us, .slice aa na ac, .slice pa np pc, .bool hs, .int .i64 ls, .slice ha nh hc, .int .i64 se]] w fun e w' => e = .returned (.bool (ndB ni mo ep si kn lo hi la te us AM na QM np hs ls HM nh se)) ∧ Below w.heap.size w w' := by
 have B := Below.nw w (.cells #[.int .i64 ni, .int .i64 mo, .int .i64 ep, .int .i64 si, .bool kn, .int .i64 lo, .int .i64 hi, .int .i64 la, .int .i64 te, .int .i64 us, .slice aa na ac, .slice pa np pc, .bool hs, .int .i64 ls, .slice ha nh hc, .int .i64 se] 98)
 have N := ar.new w (.int .i64 ni) (.int .i64 mo) (.int .i64 ep) (.int .i64 si) (.bool kn) (.int .i64 lo) (.int .i64 hi) (.int .i64 la) (.int .i64 te) (.int .i64 us) (.slice aa na ac) (.slice pa np pc) (.bool hs) (.int .i64 ls) (.slice ha nh hc) (.int .i64 se) 98
 have HA : Hid (ae w aa (na * 4) (aA AM)) := sA
 have HQ : Hid (ae w pa (np * 5) (ay QM)) := sP
 have HH : Hid (ae w ha (nh * 2) (aC HM)) := sH
 have C1 := fun w' => an ni w'
 have C2 := fun w' => bT mo ep si w'
 have C3 := fun w' => cZ kn lo hi la w'
 have C4 := fun w' h => bU te us aa na ac AM w' hna h
 have C5 := fun w' h => db pa np pc QM w' hnp h
 have C6 := fun w' => em hs ls w'
 have C7 := fun w' h => cY ha nh hc HM w' hnh h
 have C8 : ∀ w', Calls Tryz.prog 42 #[.int .i64 se, .int .i64 (-1), .int .i64 1000000000000] w' fun e w'' => e = .returned (.bool (inI se (-1) 1000000000000)) ∧ w' = w'' := fun w' => al se (-1) 1000000000000 w'
 have C9 := fun w' => cx mo ep si w'
 have C10 := fun w' h => et te us aa na ac AM ni w' hna h
 clear sA sP sH
 go_enter Tryz.func46, Tryz.ntmps46
 go_upto_region 1 with fail
 generalize w.alloc (.cells #[.int .i64 ni, .int .i64 mo, .int .i64 ep, .int .i64 si, .bool kn, .int .i64 lo, .int .i64 hi, .int .i64 la, .int .i64 te, .int .i64 us, .slice aa na ac, .slice pa np pc, .bool hs, .int .i64 ls, .slice ha nh hc, .int .i64 se] 98) = v at *
 have n0 : _ ∧ _ := N
 go_wp2_with fail
 refine (C1 _).mono ?_
 rintro e v1 ⟨rfl, rfl⟩
 clear n0
 cases h1 : aO ni
 ·have HR : Hid (ndB ni mo ep si kn lo hi la te us AM na QM np hs ls HM nh se = false) := by (show ndB ni mo ep si kn lo hi la te us AM na QM np hs ls HM nh se = false; unfold ndB ndA; rw [h1]; simp)
  go_wp2_with fail
  go_ret
  exact ⟨ab HR.out.symm, B⟩
 have n0 : _ ∧ _ := N
 go_wp2_with fail
 refine (C2 _).mono ?_
 rintro e v2 ⟨rfl, hb⟩
 clear n0
 replace B := B.trans (hb.mono B.size)
 replace N := N.below hb
 clear hb
 cases h2 : lfB mo ep si
 ·have HR : Hid (ndB ni mo ep si kn lo hi la te us AM na QM np hs ls HM nh se = false) := by (show ndB ni mo ep si kn lo hi la te us AM na QM np hs ls HM nh se = false; unfold ndB ndA; rw [h1, h2]; simp)
  go_wp2_with fail
  go_ret
  exact ⟨ab HR.out.symm, B⟩
 have n0 : _ ∧ _ := N
 go_wp2_with fail
 refine (C3 _).mono ?_
 rintro e v3 ⟨rfl, hb⟩
 clear n0
 replace B := B.trans (hb.mono B.size)
 replace N := N.below hb
 clear hb
 cases h3 : okL kn lo hi la
 ·have HR : Hid (ndB ni mo ep si kn lo hi la te us AM na QM np hs ls HM nh se = false) := by (show ndB ni mo ep si kn lo hi la te us AM na QM np hs ls HM nh se = false; unfold ndB ndA; rw [h1, h2, h3]; simp)
  go_wp2_with fail
  go_ret
  exact ⟨ab HR.out.symm, B⟩
 have n0 : _ ∧ _ := N
 go_wp2_with fail
 refine (C4 _ (HA.out.below B)).mono ?_
 rintro e v4 ⟨rfl, hb⟩
 clear n0
 replace B := B.trans (hb.mono B.size)
 replace N := N.below hb
 clear hb
 cases h4 : aw te us AM na
 ·have HR : Hid (ndB ni mo ep si kn lo hi la te us AM na QM np hs ls HM nh se = false) := by (show ndB ni mo ep si kn lo hi la te us AM na QM np hs ls HM nh se = false; unfold ndB ndA; rw [h1, h2, h3, h4]; simp)
  go_wp2_with fail
  go_ret
  exact ⟨ab HR.out.symm, B⟩
 have n0 : _ ∧ _ := N
 go_wp2_with fail
 refine (C5 _ (HQ.out.below B)).mono ?_
 rintro e v5 ⟨rfl, hb⟩
 clear n0
 replace B := B.trans (hb.mono B.size)
 replace N := N.below hb
 clear hb
 cases h5 : oks QM np
 ·have HR : Hid (ndB ni mo ep si kn lo hi la te us AM na QM np hs ls HM nh se = false) := by (show ndB ni mo ep si kn lo hi la te us AM na QM np hs ls HM nh se = false; unfold ndB ndA; rw [h1, h2, h3, h4, h5]; simp)
  go_wp2_with fail
  go_ret
  exact ⟨ab HR.out.symm, B⟩
 have n0 : _ ∧ _ := N
 go_wp2_with fail
 refine (C6 _).mono ?_
 rintro e v6 ⟨rfl, hb⟩
 clear n0
 replace B := B.trans (hb.mono B.size)
 replace N := N.below hb
 clear hb
 cases h6 : apB hs ls
 ·have HR : Hid (ndB ni mo ep si kn lo hi la te us AM na QM np hs ls HM nh se = false) := by (show ndB ni mo ep si kn lo hi la te us AM na QM np hs ls HM nh se = false; unfold ndB ndA; rw [h1, h2, h3, h4, h5, h6]; simp)
  go_wp2_with fail
  go_ret
  exact ⟨ab HR.out.symm, B⟩
 have n0 : _ ∧ _ := N
 go_wp2_with fail
 refine (C7 _ (HH.out.below B)).mono ?_
 rintro e v7 ⟨rfl, hb⟩
 clear n0
 replace B := B.trans (hb.mono B.size)
 replace N := N.below hb
 clear hb
 cases h7 : hrB HM nh
 ·have HR : Hid (ndB ni mo ep si kn lo hi la te us AM na QM np hs ls HM nh se = false) := by (show ndB ni mo ep si kn lo hi la te us AM na QM np hs ls HM nh se = false; unfold ndB ndA; rw [h1, h2, h3, h4, h5, h6, h7]; simp)
  go_wp2_with fail
  go_ret
  exact ⟨ab HR.out.symm, B⟩
 have n0 : _ ∧ _ := N
 go_wp2_with fail
 refine (C8 _).mono ?_
 rintro e v8 ⟨rfl, rfl⟩
 clear n0
 cases h8 : inI se (-1) 1000000000000
 ·have HR : Hid (ndB ni mo ep si kn lo hi la te us AM na QM np hs ls HM nh se = false) := by (show ndB ni mo ep si kn lo hi la te us AM na QM np hs ls HM nh se = false; unfold ndB ndA; rw [h1, h2, h3, h4, h5, h6, h7, h8]; simp)
  go_wp2_with fail
  go_ret
  exact ⟨ab HR.out.symm, B⟩
 have HN : Hid (ndB ni mo ep si kn lo hi la te us AM na QM np hs ls HM nh se = ((kn == knB mo ep si) && ((te == ep) && (bI QM ni np && (decide (wtI te us AM na ni ≤ 0) && (!(mo == 0) || ndD us na np hs ls nh se)))))) := by unfold ndB ndA; rw [h1, h2, h3, h4, h5, h6, h7, h8]; rfl
 clear hnh
 clear C1 C2 C3 C4 C5 C6 C7 C8 h1 h2 h3 h4 h5 h6 h7 h8 HH
 unfold maxLen at hna hnp
 generalize knB mo ep si = K at *
 generalize wtI te us AM na ni = W at *
 go_upto_region 3 with fail
 (try generalize v7 = v8 at *)
 go_cut [66] (fun s1 wx => s1 = .bool ((kn != K) || !(te == ep)) ∧ Below v8.heap.size v8 wx)
 case first => as_aux_lemma =>
  cases kn <;> cases K
  ·cases hte : (te == ep)
   ·have hne : (te != ep) = true := by rw [bne, hte]; rfl
    have SK : Hid (∀ w', Below v8.heap.size v8 w' → ((fun w' => w'.cell? ⟨w.heap.size, 1, none⟩ = some (.int .i64 mo) ∧ w'.cell? ⟨w.heap.size, 2, none⟩ = some (.int .i64 ep) ∧ w'.cell? ⟨w.heap.size, 3, none⟩ = some (.int .i64 si) ∧ w'.cell? ⟨w.heap.size, 4, none⟩ = some (.bool false) ∧ w'.cell? ⟨w.heap.size, 8, none⟩ = some (.int .i64 te))) w') := fun w' hw => ⟨(N.below hw).2.2.1, (N.below hw).2.2.2.1, (N.below hw).2.2.2.2.1, (N.below hw).2.2.2.2.2.1, (N.below hw).2.2.2.2.2.2.2.2.2.1⟩
    refine wp_region_held_drew (S := (fun w' => w'.cell? ⟨w.heap.size, 1, none⟩ = some (.int .i64 mo) ∧ w'.cell? ⟨w.heap.size, 2, none⟩ = some (.int .i64 ep) ∧ w'.cell? ⟨w.heap.size, 3, none⟩ = some (.int .i64 si) ∧ w'.cell? ⟨w.heap.size, 4, none⟩ = some (.bool false) ∧ w'.cell? ⟨w.heap.size, 8, none⟩ = some (.int .i64 te))) (by kernel_rfl) ?_ (fun hHeld => ?_)
    ·first | exact SK.out _ XB | exact SK.out _ zD
    have XB : Below v8.heap.size v8 v8.drew := Below.drew (Below.refl _ _)
    generalize v8.drew = vx at *
    refine zT4 0 ?_
    refine zTk 4 ?_
    refine zQ 5 fun K hK => ?_
    go_simp
    refine (C9 vx).mono ?_; rintro ee vx ⟨rfl, hbl⟩; (replace XB := XB.trans (hbl.mono XB.size)); (clear hbl)
    (try go_wp2_with fail)
    refine hK.out _ _ ?_ (fun hHeld => ?_)
    ·first | exact SK.out _ XB | exact SK.out _ zD
    clear hK K
    (try simp only [zA])
    refine zT8 6 ?_
    refine zTk 14 ?_
    (try simp only [hne])
    refine zTk 15 ?_
    refine wpAnyH_done (by kernel_rfl) ?_ _
    go_wp2_with fail
    go_meet
    case rel => exact ⟨by rw [hte]; rfl, XB⟩
   ·have hne : (te != ep) = false := by rw [bne, hte]; rfl
    have SK : Hid (∀ w', Below v8.heap.size v8 w' → ((fun w' => w'.cell? ⟨w.heap.size, 1, none⟩ = some (.int .i64 mo) ∧ w'.cell? ⟨w.heap.size, 2, none⟩ = some (.int .i64 ep) ∧ w'.cell? ⟨w.heap.size, 3, none⟩ = some (.int .i64 si) ∧ w'.cell? ⟨w.heap.size, 4, none⟩ = some (.bool false) ∧ w'.cell? ⟨w.heap.size, 8, none⟩ = some (.int .i64 te))) w') := fun w' hw => ⟨(N.below hw).2.2.1, (N.below hw).2.2.2.1, (N.below hw).2.2.2.2.1, (N.below hw).2.2.2.2.2.1, (N.below hw).2.2.2.2.2.2.2.2.2.1⟩
    refine wp_region_held_drew (S := (fun w' => w'.cell? ⟨w.heap.size, 1, none⟩ = some (.int .i64 mo) ∧ w'.cell? ⟨w.heap.size, 2, none⟩ = some (.int .i64 ep) ∧ w'.cell? ⟨w.heap.size, 3, none⟩ = some (.int .i64 si) ∧ w'.cell? ⟨w.heap.size, 4, none⟩ = some (.bool false) ∧ w'.cell? ⟨w.heap.size, 8, none⟩ = some (.int .i64 te))) (by kernel_rfl) ?_ (fun hHeld => ?_)
    ·first | exact SK.out _ XB | exact SK.out _ zD
    have XB : Below v8.heap.size v8 v8.drew := Below.drew (Below.refl _ _)
    generalize v8.drew = vx at *
    refine zT4 0 ?_
    refine zTk 4 ?_
    refine zQ 5 fun K hK => ?_
    go_simp
    refine (C9 vx).mono ?_; rintro ee vx ⟨rfl, hbl⟩; (replace XB := XB.trans (hbl.mono XB.size)); (clear hbl)
    (try go_wp2_with fail)
    refine hK.out _ _ ?_ (fun hHeld => ?_)
    ·first | exact SK.out _ XB | exact SK.out _ zD
    clear hK K
    (try simp only [zA])
    refine zT8 6 ?_
    refine zTk 14 ?_
    (try simp only [hne])
    refine zTk 15 ?_
    refine wpAnyH_done (by kernel_rfl) ?_ _
    go_wp2_with fail
    go_meet
    case rel => exact ⟨by rw [hte]; rfl, XB⟩
  ·have SK : Hid (∀ w', Below v8.heap.size v8 w' → ((fun w' => w'.cell? ⟨w.heap.size, 1, none⟩ = some (.int .i64 mo) ∧ w'.cell? ⟨w.heap.size, 2, none⟩ = some (.int .i64 ep) ∧ w'.cell? ⟨w.heap.size, 3, none⟩ = some (.int .i64 si) ∧ w'.cell? ⟨w.heap.size, 4, none⟩ = some (.bool false) ∧ w'.cell? ⟨w.heap.size, 8, none⟩ = some (.int .i64 te))) w') := fun w' hw => ⟨(N.below hw).2.2.1, (N.below hw).2.2.2.1, (N.below hw).2.2.2.2.1, (N.below hw).2.2.2.2.2.1, (N.below hw).2.2.2.2.2.2.2.2.2.1⟩
   refine wp_region_held_drew (S := (fun w' => w'.cell? ⟨w.heap.size, 1, none⟩ = some (.int .i64 mo) ∧ w'.cell? ⟨w.heap.size, 2, none⟩ = some (.int .i64 ep) ∧ w'.cell? ⟨w.heap.size, 3, none⟩ = some (.int .i64 si) ∧ w'.cell? ⟨w.heap.size, 4, none⟩ = some (.bool false) ∧ w'.cell? ⟨w.heap.size, 8, none⟩ = some (.int .i64 te))) (by kernel_rfl) ?_ (fun hHeld => ?_)
   ·first | exact SK.out _ XB | exact SK.out _ zD
   have XB : Below v8.heap.size v8 v8.drew := Below.drew (Below.refl _ _)
   generalize v8.drew = vx at *
   refine zT4 0 ?_
   refine zTk 4 ?_
   refine zQ 5 fun K hK => ?_
   go_simp
   refine (C9 vx).mono ?_; rintro ee vx ⟨rfl, hbl⟩; (replace XB := XB.trans (hbl.mono XB.size)); (clear hbl)
   (try go_wp2_with fail)
   refine hK.out _ _ ?_ (fun hHeld => ?_)
   ·first | exact SK.out _ XB | exact SK.out _ zD
   clear hK K
   (try simp only [zA])
   refine zT2 6 ?_
   refine zTn 8 ?_
   refine zTn 9 ?_
   refine zTn 10 ?_
   refine zTn 11 ?_
   refine zTn 12 ?_
   refine zTn 13 ?_
   refine zTn 14 ?_
   refine zTk 15 ?_
   refine wpAnyH_done (by kernel_rfl) ?_ _
   go_wp2_with fail
   go_meet
   case rel => exact ⟨rfl, XB⟩
  ·have SK : Hid (∀ w', Below v8.heap.size v8 w' → ((fun w' => w'.cell? ⟨w.heap.size, 1, none⟩ = some (.int .i64 mo) ∧ w'.cell? ⟨w.heap.size, 2, none⟩ = some (.int .i64 ep) ∧ w'.cell? ⟨w.heap.size, 3, none⟩ = some (.int .i64 si) ∧ w'.cell? ⟨w.heap.size, 4, none⟩ = some (.bool true) ∧ w'.cell? ⟨w.heap.size, 8, none⟩ = some (.int .i64 te))) w') := fun w' hw => ⟨(N.below hw).2.2.1, (N.below hw).2.2.2.1, (N.below hw).2.2.2.2.1, (N.below hw).2.2.2.2.2.1, (N.below hw).2.2.2.2.2.2.2.2.2.1⟩
   refine wp_region_held_drew (S := (fun w' => w'.cell? ⟨w.heap.size, 1, none⟩ = some (.int .i64 mo) ∧ w'.cell? ⟨w.heap.size, 2, none⟩ = some (.int .i64 ep) ∧ w'.cell? ⟨w.heap.size, 3, none⟩ = some (.int .i64 si) ∧ w'.cell? ⟨w.heap.size, 4, none⟩ = some (.bool true) ∧ w'.cell? ⟨w.heap.size, 8, none⟩ = some (.int .i64 te))) (by kernel_rfl) ?_ (fun hHeld => ?_)
   ·first | exact SK.out _ XB | exact SK.out _ zD
   have XB : Below v8.heap.size v8 v8.drew := Below.drew (Below.refl _ _)
   generalize v8.drew = vx at *
   refine zT4 0 ?_
   refine zTk 4 ?_
   refine zQ 5 fun K hK => ?_
   go_simp
   refine (C9 vx).mono ?_; rintro ee vx ⟨rfl, hbl⟩; (replace XB := XB.trans (hbl.mono XB.size)); (clear hbl)
   (try go_wp2_with fail)
   refine hK.out _ _ ?_ (fun hHeld => ?_)
   ·first | exact SK.out _ XB | exact SK.out _ zD
   clear hK K
   (try simp only [zA])
   refine zT2 6 ?_
   refine zTn 8 ?_
   refine zTn 9 ?_
   refine zTn 10 ?_
   refine zTn 11 ?_
   refine zTn 12 ?_
   refine zTn 13 ?_
   refine zTn 14 ?_
   refine zTk 15 ?_
   refine wpAnyH_done (by kernel_rfl) ?_ _
   go_wp2_with fail
   go_meet
   case rel => exact ⟨rfl, XB⟩
  ·cases hte : (te == ep)
   ·have hne : (te != ep) = true := by rw [bne, hte]; rfl
    have SK : Hid (∀ w', Below v8.heap.size v8 w' → ((fun w' => w'.cell? ⟨w.heap.size, 1, none⟩ = some (.int .i64 mo) ∧ w'.cell? ⟨w.heap.size, 2, none⟩ = some (.int .i64 ep) ∧ w'.cell? ⟨w.heap.size, 3, none⟩ = some (.int .i64 si) ∧ w'.cell? ⟨w.heap.size, 4, none⟩ = some (.bool true) ∧ w'.cell? ⟨w.heap.size, 8, none⟩ = some (.int .i64 te))) w') := fun w' hw => ⟨(N.below hw).2.2.1, (N.below hw).2.2.2.1, (N.below hw).2.2.2.2.1, (N.below hw).2.2.2.2.2.1, (N.below hw).2.2.2.2.2.2.2.2.2.1⟩
    refine wp_region_held_drew (S := (fun w' => w'.cell? ⟨w.heap.size, 1, none⟩ = some (.int .i64 mo) ∧ w'.cell? ⟨w.heap.size, 2, none⟩ = some (.int .i64 ep) ∧ w'.cell? ⟨w.heap.size, 3, none⟩ = some (.int .i64 si) ∧ w'.cell? ⟨w.heap.size, 4, none⟩ = some (.bool true) ∧ w'.cell? ⟨w.heap.size, 8, none⟩ = some (.int .i64 te))) (by kernel_rfl) ?_ (fun hHeld => ?_)
    ·first | exact SK.out _ XB | exact SK.out _ zD
    have XB : Below v8.heap.size v8 v8.drew := Below.drew (Below.refl _ _)
    generalize v8.drew = vx at *
    refine zT4 0 ?_
    refine zTk 4 ?_
    refine zQ 5 fun K hK => ?_
    go_simp
    refine (C9 vx).mono ?_; rintro ee vx ⟨rfl, hbl⟩; (replace XB := XB.trans (hbl.mono XB.size)); (clear hbl)
    (try go_wp2_with fail)
    refine hK.out _ _ ?_ (fun hHeld => ?_)
    ·first | exact SK.out _ XB | exact SK.out _ zD
    clear hK K
    (try simp only [zA])
    refine zT8 6 ?_
    refine zTk 14 ?_
    (try simp only [hne])
    refine zTk 15 ?_
    refine wpAnyH_done (by kernel_rfl) ?_ _
    go_wp2_with fail
    go_meet
    case rel => exact ⟨by rw [hte]; rfl, XB⟩
   ·have hne : (te != ep) = false := by rw [bne, hte]; rfl
    have SK : Hid (∀ w', Below v8.heap.size v8 w' → ((fun w' => w'.cell? ⟨w.heap.size, 1, none⟩ = some (.int .i64 mo) ∧ w'.cell? ⟨w.heap.size, 2, none⟩ = some (.int .i64 ep) ∧ w'.cell? ⟨w.heap.size, 3, none⟩ = some (.int .i64 si) ∧ w'.cell? ⟨w.heap.size, 4, none⟩ = some (.bool true) ∧ w'.cell? ⟨w.heap.size, 8, none⟩ = some (.int .i64 te))) w') := fun w' hw => ⟨(N.below hw).2.2.1, (N.below hw).2.2.2.1, (N.below hw).2.2.2.2.1, (N.below hw).2.2.2.2.2.1, (N.below hw).2.2.2.2.2.2.2.2.2.1⟩
    refine wp_region_held_drew (S := (fun w' => w'.cell? ⟨w.heap.size, 1, none⟩ = some (.int .i64 mo) ∧ w'.cell? ⟨w.heap.size, 2, none⟩ = some (.int .i64 ep) ∧ w'.cell? ⟨w.heap.size, 3, none⟩ = some (.int .i64 si) ∧ w'.cell? ⟨w.heap.size, 4, none⟩ = some (.bool true) ∧ w'.cell? ⟨w.heap.size, 8, none⟩ = some (.int .i64 te))) (by kernel_rfl) ?_ (fun hHeld => ?_)
    ·first | exact SK.out _ XB | exact SK.out _ zD
    have XB : Below v8.heap.size v8 v8.drew := Below.drew (Below.refl _ _)
    generalize v8.drew = vx at *
    refine zT4 0 ?_
    refine zTk 4 ?_
    refine zQ 5 fun K hK => ?_
    go_simp
    refine (C9 vx).mono ?_; rintro ee vx ⟨rfl, hbl⟩; (replace XB := XB.trans (hbl.mono XB.size)); (clear hbl)
    (try go_wp2_with fail)
    refine hK.out _ _ ?_ (fun hHeld => ?_)
    ·first | exact SK.out _ XB | exact SK.out _ zD
    clear hK K
    (try simp only [zA])
    refine zT8 6 ?_
    refine zTk 14 ?_
    (try simp only [hne])
    refine zTk 15 ?_
    refine wpAnyH_done (by kernel_rfl) ?_ _
    go_wp2_with fail
    go_meet
    case rel => exact ⟨by rw [hte]; rfl, XB⟩
 case rest =>
  obtain ⟨rfl, hb⟩ := hcut
  replace B := B.trans (hb.mono B.size)
  replace N := N.below hb
  clear hb C9
  cases hq : ((kn != K) || !(te == ep))
  rotate_left
  ·have HR : Hid (ndB ni mo ep si kn lo hi la te us AM na QM np hs ls HM nh se = false) := by
    rw [Hid, HN.out]
    cases h1 : (kn == K)
    ·rfl
    ·rw [bne, h1] at hq
     cases h2 : (te == ep)
     ·rfl
     ·rw [h2] at hq; exact absurd hq (by decide)
   clear HN C10
   go_wp2_with fail
   go_ret
   exact ⟨ab HR.out.symm, B⟩
  replace HN : Hid (ndB ni mo ep si kn lo hi la te us AM na QM np hs ls HM nh se = (bI QM ni np && (decide (W ≤ 0) && (!(mo == 0) || ndD us na np hs ls nh se)))) := by
   rw [Hid, HN.out]
   cases h1 : (kn == K)
   ·rw [bne, h1] at hq; exact absurd hq (by cases (te == ep) <;> decide)
   ·cases h2 : (te == ep)
    ·rw [bne, h1, h2] at hq; exact absurd hq (by decide)
    ·rfl
  clear hq
  have n0 : _ ∧ _ := N
  go_wp2_with fail
  clear n0
  go_loopw [3] (fun i wr => ∃ (k : Nat), k ≤ np ∧ i = .int .i64 (k : Int) ∧ bI QM ni k = true ∧ Below w.heap.size w wr ∧ ar wr w.heap.size (.int .i64 ni) (.int .i64 mo) (.int .i64 ep) (.int .i64 si) (.bool kn) (.int .i64 lo) (.int .i64 hi) (.int .i64 la) (.int .i64 te) (.int .i64 us) (.slice aa na ac) (.slice pa np pc) (.bool hs) (.int .i64 ls) (.slice ha nh hc) (.int .i64 se)) (fun i _ => np - (intOf i).toNat)
  case atStart => exact ⟨0, Nat.zero_le _, rfl, rfl, B, N⟩
  case round =>
   clear B N
   obtain ⟨k, hk, rfl, hA, B, N⟩ := hrel
   by_cases hlt : k < np
   ·obtain ⟨x0, x1, x2, x3, x4, hM⟩ := bz QM k
    obtain ⟨b, off, rfl, hf⟩ : ∃ b off, pa = some ⟨b, off, none⟩ ∧ Cs w b off (np * 5) (ay QM) := by
     rcases HQ.out with q | q
     ·exact absurd q (by omega)
     ·exact q
    have hf' := hf.below B hf.1
    have hbb := hf'.1
    obtain ⟨c0, -, -, -, -⟩ := hf'.elPeer hlt hM
    have HLT : Hid (k < np) := hlt
    have hli : (k : Int) < (np : Int) := by omega
    have n0 : _ ∧ _ := N
    go_upto_region 8 with fail
    clear n0
    go_cut [82] (fun s1 wx => s1 = .bool (x0 == ni) ∧ Below wr.heap.size wr wx)
    case first => as_aux_lemma =>
     have SK : Hid (∀ w', Below wr.heap.size wr w' → ((fun w' => w'.cell? ⟨w.heap.size, 0, none⟩ = some (.int .i64 ni) ∧ w'.cell? ⟨w.heap.size, 11, none⟩ = some (.slice (some ⟨b, off, none⟩) np pc) ∧ w'.cell? ⟨b, off + k * 5, none⟩ = some (.int .i64 x0))) w') := fun w' hw => ⟨(N.below hw).2.1, (N.below hw).2.2.2.2.2.2.2.2.2.2.2.2.1, by rw [hw.cell (p := ⟨b, off + k * 5, none⟩) hbb]; exact c0⟩
     refine wp_region_held_drew (S := (fun w' => w'.cell? ⟨w.heap.size, 0, none⟩ = some (.int .i64 ni) ∧ w'.cell? ⟨w.heap.size, 11, none⟩ = some (.slice (some ⟨b, off, none⟩) np pc) ∧ w'.cell? ⟨b, off + k * 5, none⟩ = some (.int .i64 x0))) (by kernel_rfl) ?_ (fun hHeld => ?_)
     ·first | exact SK.out _ XB | exact SK.out _ zD
     have XB : Below wr.heap.size wr wr.drew := Below.drew (Below.refl _ _)
     generalize wr.drew = vx at *
     refine zT8 0 ?_
     refine zTk 8 ?_
     refine wpAnyH_done (by kernel_rfl) ?_ _
     go_wp2_with fail
     go_meet
     case rel => exact ⟨rfl, XB⟩
    case rest =>
     obtain ⟨rfl, hb⟩ := hcut
     replace B := B.trans (hb.mono B.size)
     replace N := N.below hb
     clear hb
     cases hq : (x0 == ni)
     ·have HT : Hid (bI QM ni (k + 1) = true) := by (show bI QM ni (k + 1) = true; rw [bI, hA, hM]; show (_ && !(x0 == ni)) = true; rw [hq]; rfl)
      clear hM hf hf' hA hq c0
      go_wp2_with fail
      go_roundw
      case rel => exact ⟨k + 1, HLT.out, by go_num, HT.out, B, N⟩
      case measure => have hlt' := HLT.out; simp [intOf]; omega
     ·have HR : Hid (ndB ni mo ep si kn lo hi la te us AM na QM np hs ls HM nh se = false) := by
       have e1 : bI QM ni (k + 1) = false := by rw [bI, hM]; show (_ && !(x0 == ni)) = false; rw [hq]; simp
       show ndB ni mo ep si kn lo hi la te us AM na QM np hs ls HM nh se = false
       rw [HN.out, iQ e1 hlt]; rfl
      clear HN C10 hM hf hf' hA hq c0
      go_wp2_with fail
      go_ret
      exact ⟨ab HR.out.symm, B⟩
   ·obtain rfl : np = k := by omega
    have hli : ¬ (np : Int) < (np : Int) := by omega
    replace HN : Hid (ndB ni mo ep si kn lo hi la te us AM na QM np hs ls HM nh se = (decide (W ≤ 0) && (!(mo == 0) || ndD us na np hs ls nh se))) := by (show ndB ni mo ep si kn lo hi la te us AM na QM np hs ls HM nh se = _; rw [HN.out, hA]; rfl)
    clear hA HQ
    have n0 : _ ∧ _ := N
    go_wp2_with fail
    refine (C10 _ (HA.out.below B)).mono ?_
    rintro e v9 ⟨rfl, hb⟩
    clear n0
    replace B := B.trans (hb.mono B.size)
    replace N := N.below hb
    clear hb C10 HA
    by_cases hW : 0 < W
    ·have HR : Hid (ndB ni mo ep si kn lo hi la te us AM na QM np hs ls HM nh se = false) := by (show ndB ni mo ep si kn lo hi la te us AM na QM np hs ls HM nh se = false; rw [HN.out, decide_eq_false (p := W ≤ 0) (by omega)]; rfl)
     clear HN
     go_wp2_with fail
     go_ret
     exact ⟨ab HR.out.symm, B⟩
    replace HN : Hid (ndB ni mo ep si kn lo hi la te us AM na QM np hs ls HM nh se = (!(mo == 0) || ndD us na np hs ls nh se)) := by (show ndB ni mo ep si kn lo hi la te us AM na QM np hs ls HM nh se = _; rw [HN.out, decide_eq_true (p := W ≤ 0) (by omega)]; rfl)
    have n0 : _ ∧ _ := N
    by_cases hmo : mo = 0
    rotate_left
    ·have hm1 : (mo != 0) = true := by simp [hmo]
     have HR : Hid (ndB ni mo ep si kn lo hi la te us AM na QM np hs ls HM nh se = true) := by (show ndB ni mo ep si kn lo hi la te us AM na QM np hs ls HM nh se = true; rw [HN.out]; simp [hmo])
     clear HN
     go_wp2_with fail
     go_ret
     exact ⟨ab HR.out.symm, B⟩
    have hm1 : (mo != 0) = false := by simp [hmo]
    replace HN : Hid (ndB ni mo ep si kn lo hi la te us AM na QM np hs ls HM nh se = ndD us na np hs ls nh se) := by (show ndB ni mo ep si kn lo hi la te us AM na QM np hs ls HM nh se = _; rw [HN.out, hmo]; rfl)
    clear hmo
    have A9 := Below.nw v9 (.cells #[.bool false, .int .i64 0] 95)
    have Z := Bx2.new v9 (.bool false) (.int .i64 0) 95
    go_upto_region 15 with fail
    clear n0
    replace B := B.trans (A9.mono B.size)
    replace N := N.below A9
    clear A9
    generalize v9.alloc (.cells #[.bool false, .int .i64 0] 95) = v10 at *
    generalize v9.heap.size = jz at *
    have n0 : _ ∧ _ := N
    have z0 : _ ∧ _ := Z
    by_cases p0 : na = 0
    rotate_left
    ·have e0 : ((na : Int) == 0) = false := by (rw [beq_eq_false_iff_ne]; omega)
     have HR : Hid (ndB ni mo ep si kn lo hi la te us AM na QM np hs ls HM nh se = false) := by (show ndB ni mo ep si kn lo hi la te us AM na QM np hs ls HM nh se = false; rw [HN.out]; unfold ndD; simp [p0])
     clear HN
     go_wp2_with fail
     go_ret
     exact ⟨ab HR.out.symm, B⟩
    have e0 : ((na : Int) == 0) = true := by (rw [beq_iff_eq]; omega)
    by_cases p1 : us = 0
    rotate_left
    ·have e1 : (us == 0) = false := by (rw [beq_eq_false_iff_ne]; omega)
     have HR : Hid (ndB ni mo ep si kn lo hi la te us AM na QM np hs ls HM nh se = false) := by (show ndB ni mo ep si kn lo hi la te us AM na QM np hs ls HM nh se = false; rw [HN.out]; unfold ndD; simp [p0, p1])
     clear HN
     go_wp2_with fail
     go_ret
     exact ⟨ab HR.out.symm, B⟩
    have e1 : (us == 0) = true := by (rw [beq_iff_eq]; omega)
    by_cases p2 : np = 0
    rotate_left
    ·have e2 : ((np : Int) == 0) = false := by (rw [beq_eq_false_iff_ne]; omega)
     have HR : Hid (ndB ni mo ep si kn lo hi la te us AM na QM np hs ls HM nh se = false) := by (show ndB ni mo ep si kn lo hi la te us AM na QM np hs ls HM nh se = false; rw [HN.out]; unfold ndD; simp [p0, p1, p2])
     clear HN
     go_wp2_with fail
     go_ret
     exact ⟨ab HR.out.symm, B⟩
    have e2 : ((np : Int) == 0) = true := by (rw [beq_iff_eq]; omega)
    cases hs
    rotate_left
    ·have HR : Hid (ndB ni mo ep si kn lo hi la te us AM na QM np true ls HM nh se = false) := by (show ndB ni mo ep si kn lo hi la te us AM na QM np true ls HM nh se = false; rw [HN.out]; unfold ndD; simp)
     clear HN
     go_wp2_with fail
     go_ret
     exact ⟨ab HR.out.symm, B⟩
    by_cases p3 : ls = 0
    rotate_left
    ·have e3 : (ls == 0) = false := by (rw [beq_eq_false_iff_ne]; omega)
     have HR : Hid (ndB ni mo ep si kn lo hi la te us AM na QM np false ls HM nh se = false) := by (show ndB ni mo ep si kn lo hi la te us AM na QM np false ls HM nh se = false; rw [HN.out]; unfold ndD; simp [p0, p1, p2, p3])
     clear HN
     go_wp2_with fail
     go_ret
     exact ⟨ab HR.out.symm, B⟩
    have e3 : (ls == 0) = true := by (rw [beq_iff_eq]; omega)
    by_cases p4 : nh = 0
    rotate_left
    ·have e4 : ((nh : Int) == 0) = false := by (rw [beq_eq_false_iff_ne]; omega)
     have HR : Hid (ndB ni mo ep si kn lo hi la te us AM na QM np false ls HM nh se = false) := by (show ndB ni mo ep si kn lo hi la te us AM na QM np false ls HM nh se = false; rw [HN.out]; unfold ndD; simp [p0, p1, p2, p3, p4])
     clear HN
     go_wp2_with fail
     go_ret
     exact ⟨ab HR.out.symm, B⟩
    have e4 : ((nh : Int) == 0) = true := by (rw [beq_iff_eq]; omega)
    by_cases p5 : se = -1
    rotate_left
    ·have e5 : (se == -1) = false := by (rw [beq_eq_false_iff_ne]; omega)
     have HR : Hid (ndB ni mo ep si kn lo hi la te us AM na QM np false ls HM nh se = false) := by (show ndB ni mo ep si kn lo hi la te us AM na QM np false ls HM nh se = false; rw [HN.out]; unfold ndD; simp [p0, p1, p2, p3, p4, p5])
     clear HN
     go_wp2_with fail
     go_ret
     exact ⟨ab HR.out.symm, B⟩
    have e5 : (se == -1) = true := by (rw [beq_iff_eq]; omega)
    have HR : Hid (ndB ni mo ep si kn lo hi la te us AM na QM np false ls HM nh se = true) := by (show ndB ni mo ep si kn lo hi la te us AM na QM np false ls HM nh se = true; rw [HN.out]; unfold ndD; simp [p0, p1, p2, p3, p4, p5])
    clear HN
    go_wp2_with fail
    go_ret
    exact ⟨ab HR.out.symm, B⟩

end Go.Proofs.YtddijpjgkifngaaGreat
