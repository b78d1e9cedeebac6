/-
  taskmilllaw.RaceAll: its ways, and its walk.
-/
import Derived.Test.YtbnmeeabpjmcoaaZu
import Derived.Test.YtbnmeeabpjmcoaaZv
import Derived.Test.YtbnmeeabpjmcoaaV
namespace Go.Proofs.Ytbnmeeabpjmcoaa
open Go.RowKit

set_option maxRecDepth 100000 in
set_option maxHeartbeats 4000000 in
theorem ra_long (w : World) (a0 : Option Addr) (n0 c0 : Nat) (a1 : Option Addr) (n1 c1 : Nat) (h : 300 < n0) :
    Calls Try.prog 7 #[.slice a0 n0 c0, .slice a1 n1 c1] w fun e w' => e = .returned (.bool true) ∧ Below w.heap.size w w' := by
  have d1 : (300 : Int) < (n0 : Int) := by omega
  go_enter Try.func7, Try.ntmps7
  go_wp2_with (go_at_call 22; (with_reducible refine Calls.mono (raceBegun_any _) ?_); rintro e w1 ⟨rfl, hb1⟩; have HX1 := hide hb1; clear hb1)
  go_ret
  exact ⟨rfl, unhide HX1⟩

set_option maxRecDepth 100000 in
set_option maxHeartbeats 4000000 in
theorem ra_pipes (w : World) (a0 : Option Addr) (n0 c0 : Nat) (a1 : Option Addr) (n1 c1 : Nat) (h : ¬ 300 < n0) (h4 : 100 < n1) :
    Calls Try.prog 7 #[.slice a0 n0 c0, .slice a1 n1 c1] w fun e w' => e = .returned (.bool true) ∧ Below w.heap.size w w' := by
  have d1 : ¬ (300 : Int) < (n0 : Int) := by omega
  have d4 : (100 : Int) < (n1 : Int) := by omega
  go_enter Try.func7, Try.ntmps7
  go_wp2_with (go_at_call 22; (with_reducible refine Calls.mono (raceBegun_any _) ?_); rintro e w1 ⟨rfl, hb1⟩; have HX1 := hide hb1; clear hb1)
  go_ret
  exact ⟨rfl, unhide HX1⟩

set_option maxRecDepth 100000 in
set_option maxHeartbeats 4000000 in
theorem ra_fault (w : World) (a0 : Option Addr) (n0 c0 : Nat) (a1 : Option Addr) (n1 c1 : Nat) (l : List Ev) (hs : List Int) (hl : IsL KE w (.slice a0 n0 c0) l) (hh : IsL KI w (.slice a1 n1 c1) hs) (h1 : ¬ 300 < n0) (h3 : ¬ 100 < n1) (fc fa : Int) (hf : checkF hs l = (fc, fa)) (hfc : fc ≠ 0) :
    Calls Try.prog 7 #[.slice a0 n0 c0, .slice a1 n1 c1] w fun e w' => e = .returned (.bool true) ∧ Below w.heap.size w w' := by
  have hln := hl.len
  have hhn := hh.len
  have g2 : ¬ (300 : Int) < (n0 : Int) := by omega
  have g3 : ¬ (100 : Int) < (n1 : Int) := by omega
  have x1 : (fc == 0) = false := by simpa using hfc
  have x2 : (fc != 0) = true := by simpa using hfc
  have x3 : (fc == fc) = true := by simp
  have x4 : (fa == fa) = true := by simp
  have HOT : Hid (∀ W, Below w.heap.size w W → Calls Try.prog 10 #[.slice a0 n0 c0] W fun e w' => ∃ a' c', e = .returned (.slice a' n0 c') ∧ IsL KE w' (.slice a' n0 c') l ∧ Below W.heap.size W w') := fun W hW => by
    have h_ := ownTrace_any W _ l (hl.below hW) (by rw [hln]; omega)
    rw [hln] at h_
    exact h_.mono fun _ _ ⟨a', c', q1, q2, q3⟩ => ⟨a', c', q1, q2.isl, q3⟩
  have HOI : Hid (∀ W, Below w.heap.size w W → Calls Try.prog 11 #[.slice a1 n1 c1] W fun e w' => ∃ a' c', e = .returned (.slice a' n1 c') ∧ IsL KI w' (.slice a' n1 c') hs ∧ Below W.heap.size W w') := fun W hW => by
    have h_ := own_any W _ hs (hh.below hW) (by rw [hhn]; omega)
    rw [hhn] at h_
    exact h_.mono fun _ _ ⟨a', c', q1, q2, q3⟩ => ⟨a', c', q1, q2.isl, q3⟩
  have HAL : Hid (∀ W a c a' c', IsL KE W (.slice a n0 c) l → IsL KI W (.slice a' n1 c') hs → Calls Try.prog 23 #[.slice a n0 c, .slice a' n1 c'] W fun e w' => e = .returned (.tuple #[.slice none 0 0, .agg #[.int .i64 fc, .int .i64 fa]]) ∧ Below W.heap.size W w') := fun W a c a' c' q1 q2 => all_fault W a n0 c a' n1 c' l hs q1 q2 fc fa hf hfc
  have HFI : Hid (∀ W a c a' c', IsL KE W (.slice a n0 c) l → IsL KI W (.slice a' n1 c') hs → Calls Try.prog 24 #[.slice a n0 c, .slice a' n1 c'] W fun e w' => e = .returned (.tuple #[.int .i64 0, .agg #[.int .i64 fc, .int .i64 fa]]) ∧ Below W.heap.size W w') := fun W a c a' c' q1 q2 => first_fault W a n0 c a' n1 c' l hs q1 q2 fc fa hf hfc
  have HTF : Hid (∀ W, Below w.heap.size w W → Calls Try.prog 15 #[.slice a0 n0 c0, .slice a1 n1 c1] W fun e w' => e = .returned (.agg #[.int .i64 fc, .int .i64 fa]) ∧ Below W.heap.size W w') := fun W hW => by
    have h_ := tf_any W a0 n0 c0 a1 n1 c1 l hs (hl.below hW) (hh.below hW)
    rwa [hf] at h_
  have HST : Hid (∀ W a c, IsL KE W (.slice a n0 c) l → Below w.heap.size w W → Calls Try.prog 16 #[.slice a n0 c, .slice a0 n0 c0] W fun e w' => e = .returned (.bool true) ∧ Below W.heap.size W w') := fun W a c q1 hW => trace_same W _ _ l q1 (hl.below hW) (by rw [hln]; omega)
  have HIN : Hid (∀ W a c, IsL KI W (.slice a n1 c) hs → Below w.heap.size w W → Calls Try.prog 17 #[.slice a n1 c, .slice a1 n1 c1] W fun e w' => e = .returned (.bool true) ∧ Below W.heap.size W w') := fun W a c q1 hW => ints_same W _ _ hs q1 (hh.below hW) (by rw [hhn]; unfold maxLen; omega)
  clear hl hh hln hhn hf
  go_enter Try.func7, Try.ntmps7
  go_upto_region 5 with (go_at_call 22; (with_reducible refine Calls.mono (raceBegun_any _) ?_); rintro e w1 ⟨rfl, hb1⟩; have HX_0 := hide hb1; clear hb1)
  go_upto_region 6 with (first
    | (go_at_call 10; (with_reducible refine Calls.mono (unhide HOT _ (unhide HX_0)) ?_); rintro e w2 ⟨a2, c2, rfl, hi2, hb2⟩; have HX_1 := hide (Below.next (unhide HX_0) hb2 (Nat.le_refl _)); clear HX_0; have HIX_1 := hide hi2; clear hi2 hb2)
    | (go_at_call 11; (with_reducible refine Calls.mono (unhide HOI _ (unhide HX_1)) ?_); rintro e w3 ⟨a3, c3, rfl, hi3, hb3⟩; have HX_2 := hide (Below.next (unhide HX_1) hb3 (Nat.le_refl _)); have HIX_2 := hide ((unhide HIX_1).below hb3); clear HX_1 HIX_1; have HIY_2 := hide hi3; clear hi3 hb3))
  clear HOT HOI
  go_upto_region 7 with (go_at_call 23; (with_reducible refine Calls.mono (unhide HAL _ _ _ _ _ (unhide HIX_2) (unhide HIY_2)) ?_); rintro e w4 ⟨rfl, hb4⟩; have HX_3 := hide (Below.next (unhide HX_2) hb4 (Nat.le_refl _)); have HIX_3 := hide ((unhide HIX_2).below hb4); have HIY_3 := hide ((unhide HIY_2).below hb4); clear HX_2 HIX_2 HIY_2; clear hb4)
  have HX_4 := hide ((unhide HX_3).alloc (unhide HX_3).size (.cells #[.int .i64 fc, .int .i64 fa] 28))
  have HIX_4 := hide ((unhide HIX_3).below ((Below.refl _ _).alloc (Nat.le_refl _) (.cells #[.int .i64 fc, .int .i64 fa] 28)))
  have HIY_4 := hide ((unhide HIY_3).below ((Below.refl _ _).alloc (Nat.le_refl _) (.cells #[.int .i64 fc, .int .i64 fa] 28)))
  have HF_4 := hide (new_block w4 (.cells #[.int .i64 fc, .int .i64 fa] 28))
  obtain ⟨F1, eF1⟩ : ∃ X, w4.heap.size = X := ⟨_, rfl⟩
  obtain ⟨W4, eW4⟩ : ∃ X, w4.alloc (.cells #[.int .i64 fc, .int .i64 fa] 28) = X := ⟨_, rfl⟩
  rw [eW4] at HX_4
  rw [eW4] at HIX_4
  rw [eW4] at HIY_4
  rw [eF1, eW4] at HF_4
  rw [eF1, eW4]
  clear eF1 eW4 HX_3 HIX_3 HIY_3
  clear HAL
  go_upto_region 8 with (go_at_call 24; (with_reducible refine Calls.mono (unhide HFI _ _ _ _ _ (unhide HIX_4) (unhide HIY_4)) ?_); rintro e w5 ⟨rfl, hb5⟩; have HX_5 := hide (Below.next (unhide HX_4) hb5 (Nat.le_refl _)); have HIX_5 := hide ((unhide HIX_4).below hb5); have HIY_5 := hide ((unhide HIY_4).below hb5); have HF_5 := hide (keep_below (unhide HF_4) hb5); clear HX_4 HIX_4 HIY_4 HF_4; clear hb5)
  have HX_6 := hide ((unhide HX_5).alloc (unhide HX_5).size (.cells #[.int .i64 fc, .int .i64 fa] 28))
  have HIX_6 := hide ((unhide HIX_5).below ((Below.refl _ _).alloc (Nat.le_refl _) (.cells #[.int .i64 fc, .int .i64 fa] 28)))
  have HIY_6 := hide ((unhide HIY_5).below ((Below.refl _ _).alloc (Nat.le_refl _) (.cells #[.int .i64 fc, .int .i64 fa] 28)))
  have HF_6 := hide (keep_alloc (unhide HF_5) (.cells #[.int .i64 fc, .int .i64 fa] 28))
  have HP_6 := hide (new_block w5 (.cells #[.int .i64 fc, .int .i64 fa] 28))
  obtain ⟨F2, eF2⟩ : ∃ X, w5.heap.size = X := ⟨_, rfl⟩
  obtain ⟨W6, eW6⟩ : ∃ X, w5.alloc (.cells #[.int .i64 fc, .int .i64 fa] 28) = X := ⟨_, rfl⟩
  rw [eW6] at HX_6
  rw [eW6] at HIX_6
  rw [eW6] at HIY_6
  rw [eW6] at HF_6
  rw [eF2, eW6] at HP_6
  rw [eF2, eW6]
  clear eF2 eW6 HX_5 HIX_5 HIY_5 HF_5
  clear HFI
  go_upto_region 9 with (go_at_call 15; (with_reducible refine Calls.mono (unhide HTF _ (unhide HX_6)) ?_); rintro e w6 ⟨rfl, hb6⟩; have HX_7 := hide (Below.next (unhide HX_6) hb6 (Nat.le_refl _)); have HIX_7 := hide ((unhide HIX_6).below hb6); have HIY_7 := hide ((unhide HIY_6).below hb6); have HF_7 := hide (keep_below (unhide HF_6) hb6); have HP_7 := hide (keep_below (unhide HP_6) hb6); clear HX_6 HIX_6 HIY_6 HF_6 HP_6; clear hb6)
  have HX_8 := hide ((unhide HX_7).alloc (unhide HX_7).size (.cells #[.int .i64 fc, .int .i64 fa] 28))
  have HIX_8 := hide ((unhide HIX_7).below ((Below.refl _ _).alloc (Nat.le_refl _) (.cells #[.int .i64 fc, .int .i64 fa] 28)))
  have HIY_8 := hide ((unhide HIY_7).below ((Below.refl _ _).alloc (Nat.le_refl _) (.cells #[.int .i64 fc, .int .i64 fa] 28)))
  have HF_8 := hide (keep_alloc (unhide HF_7) (.cells #[.int .i64 fc, .int .i64 fa] 28))
  have HP_8 := hide (keep_alloc (unhide HP_7) (.cells #[.int .i64 fc, .int .i64 fa] 28))
  have HD_8 := hide (new_block w6 (.cells #[.int .i64 fc, .int .i64 fa] 28))
  obtain ⟨D, eD⟩ : ∃ X, w6.heap.size = X := ⟨_, rfl⟩
  obtain ⟨W8, eW8⟩ : ∃ X, w6.alloc (.cells #[.int .i64 fc, .int .i64 fa] 28) = X := ⟨_, rfl⟩
  rw [eW8] at HX_8
  rw [eW8] at HIX_8
  rw [eW8] at HIY_8
  rw [eW8] at HF_8
  rw [eW8] at HP_8
  rw [eD, eW8] at HD_8
  rw [eD, eW8]
  clear eD eW8 HX_7 HIX_7 HIY_7 HF_7 HP_7
  clear HTF
  go_upto_region 11 with (first
    | (go_at_call 16; (with_reducible refine Calls.mono (unhide HST _ _ _ (unhide HIX_8) (unhide HX_8)) ?_); rintro e w7 ⟨rfl, hb7⟩; have HX_9 := hide (Below.next (unhide HX_8) hb7 (Nat.le_refl _)); have HIX_9 := hide ((unhide HIX_8).below hb7); have HIY_9 := hide ((unhide HIY_8).below hb7); have HF_9 := hide (keep_below (unhide HF_8) hb7); have HP_9 := hide (keep_below (unhide HP_8) hb7); have HD_9 := hide (keep_below (unhide HD_8) hb7); clear HX_8 HIX_8 HIY_8 HF_8 HP_8 HD_8; clear hb7)
    | (go_at_call 17; (with_reducible refine Calls.mono (unhide HIN _ _ _ (unhide HIY_9) (unhide HX_9)) ?_); rintro e w8 ⟨rfl, hb8⟩; have HX_10 := hide (Below.next (unhide HX_9) hb8 (Nat.le_refl _)); have HIX_10 := hide ((unhide HIX_9).below hb8); have HIY_10 := hide ((unhide HIY_9).below hb8); have HF_10 := hide (keep_below (unhide HF_9) hb8); have HP_10 := hide (keep_below (unhide HP_9) hb8); have HD_10 := hide (keep_below (unhide HD_9) hb8); clear HX_9 HIX_9 HIY_9 HF_9 HP_9 HD_9; clear hb8))
  clear HST HIN
  clear HIX_10 HIY_10
  obtain ⟨g0, g1, gf0, gf1, gl⟩ := block2 (unhide HF_10)
  obtain ⟨p0, p1, pf0, pf1, pl⟩ := block2 (unhide HP_10)
  obtain ⟨q0, q1, qf0, qf1, ql⟩ := block2 (unhide HD_10)
  go_wp2_with fail
  go_ret
  exact ⟨rfl, unhide HX_10⟩

set_option maxRecDepth 100000 in
set_option maxHeartbeats 4000000 in
theorem ra_none (w : World) (a0 : Option Addr) (n0 c0 : Nat) (a1 : Option Addr) (n1 c1 : Nat) (l : List Ev) (hs : List Int) (hl : IsL KE w (.slice a0 n0 c0) l) (hh : IsL KI w (.slice a1 n1 c1) hs) (h1 : ¬ 300 < n0) (h3 : ¬ 100 < n1) (hg : GoodT hs l) (hk : firstR hs l = none) :
    Calls Try.prog 7 #[.slice a0 n0 c0, .slice a1 n1 c1] w fun e w' => e = .returned (.bool true) ∧ Below w.heap.size w w' := by
  have hln := hl.len
  have hhn := hh.len
  have g2 : ¬ (300 : Int) < (n0 : Int) := by omega
  have g3 : ¬ (100 : Int) < (n1 : Int) := by omega
  have hf := hg.zero
  obtain ⟨N, eN⟩ : ∃ X, (pairsL hs l n0).length = X := ⟨_, rfl⟩
  have HEN := hide eN
  have hN0 := first_none hln hk
  rw [eN] at hN0
  have HN0 := hide hN0
  have hbig : ¬ 5000 < N := by omega
  have y1 : ¬ (5000 : Int) < (N : Int) := by omega
  have xN : ((N : Int) == 0) = true := by simp [hN0]
  clear hN0
  have HOT : Hid (∀ W, Below w.heap.size w W → Calls Try.prog 10 #[.slice a0 n0 c0] W fun e w' => ∃ a' c', e = .returned (.slice a' n0 c') ∧ IsL KE w' (.slice a' n0 c') l ∧ Below W.heap.size W w') := fun W hW => by
    have h_ := ownTrace_any W _ l (hl.below hW) (by rw [hln]; omega)
    rw [hln] at h_
    exact h_.mono fun _ _ ⟨a', c', q1, q2, q3⟩ => ⟨a', c', q1, q2.isl, q3⟩
  have HOI : Hid (∀ W, Below w.heap.size w W → Calls Try.prog 11 #[.slice a1 n1 c1] W fun e w' => ∃ a' c', e = .returned (.slice a' n1 c') ∧ IsL KI w' (.slice a' n1 c') hs ∧ Below W.heap.size W w') := fun W hW => by
    have h_ := own_any W _ hs (hh.below hW) (by rw [hhn]; omega)
    rw [hhn] at h_
    exact h_.mono fun _ _ ⟨a', c', q1, q2, q3⟩ => ⟨a', c', q1, q2.isl, q3⟩
  have HAL : Hid (∀ W a c a' c', IsL KE W (.slice a n0 c) l → IsL KI W (.slice a' n1 c') hs → Calls Try.prog 23 #[.slice a n0 c, .slice a' n1 c'] W fun e w' => ∃ a c, e = .returned (.tuple #[.slice a N c, .agg #[.int .i64 0, .int .i64 0]]) ∧ IsL KP w' (.slice a N c) (pairsL hs l n0) ∧ Below W.heap.size W w') := fun W a c a' c' q1 q2 => by
    have h_ := all_good W a n0 c a' n1 c' l hs q1 q2 hg
    refine h_.mono fun e w' ⟨r1, r2⟩ => ?_
    unfold AllIs at r1
    rw [hln, eN, if_neg hbig] at r1
    obtain ⟨a, c, r3, r4⟩ := r1
    exact ⟨a, c, r3, r4, r2⟩
  have HFI : Hid (∀ W a c a' c', IsL KE W (.slice a n0 c) l → IsL KI W (.slice a' n1 c') hs → Calls Try.prog 24 #[.slice a n0 c, .slice a' n1 c'] W fun e w' => e = .returned (.tuple #[.int .i64 0, .agg #[.int .i64 6, .int .i64 0]]) ∧ Below W.heap.size W w') := fun W a c a' c' q1 q2 => by
    have h_ := first_good W a n0 c a' n1 c' l hs q1 q2 hg
    refine h_.mono fun e w' ⟨r1, r2⟩ => ⟨?_, r2⟩
    unfold FirstIs at r1
    rw [hk] at r1
    exact r1
  have HTF : Hid (∀ W, Below w.heap.size w W → Calls Try.prog 15 #[.slice a0 n0 c0, .slice a1 n1 c1] W fun e w' => e = .returned (.agg #[.int .i64 0, .int .i64 0]) ∧ Below W.heap.size W w') := fun W hW => by
    have h_ := tf_any W a0 n0 c0 a1 n1 c1 l hs (hl.below hW) (hh.below hW)
    rwa [hf] at h_
  have HST : Hid (∀ W a c, IsL KE W (.slice a n0 c) l → Below w.heap.size w W → Calls Try.prog 16 #[.slice a n0 c, .slice a0 n0 c0] W fun e w' => e = .returned (.bool true) ∧ Below W.heap.size W w') := fun W a c q1 hW => trace_same W _ _ l q1 (hl.below hW) (by rw [hln]; omega)
  have HIN : Hid (∀ W a c, IsL KI W (.slice a n1 c) hs → Below w.heap.size w W → Calls Try.prog 17 #[.slice a n1 c, .slice a1 n1 c1] W fun e w' => e = .returned (.bool true) ∧ Below W.heap.size W w') := fun W a c q1 hW => ints_same W _ _ hs q1 (hh.below hW) (by rw [hhn]; unfold maxLen; omega)
  have HRO : Hid (∀ W, Below w.heap.size w W → Calls Try.prog 25 #[.slice a0 n0 c0, .slice a1 n1 c1] W fun e w' => ∃ a c, e = .returned (.slice a N c) ∧ IsL KP w' (.slice a N c) (pairsL hs l n0) ∧ Below W.heap.size W w') := fun W hW => by
    have h_ := racesOf_any W a0 n0 c0 a1 n1 c1 l hs (hl.below hW) (hh.below hW) hg (by omega)
    rw [eN] at h_
    exact h_.mono fun _ _ ⟨a, c, q1, q2, _, q3⟩ => ⟨a, c, q1, q2, q3⟩
  clear hl hh hln hhn hf hg
  go_enter Try.func7, Try.ntmps7
  go_upto_region 5 with (go_at_call 22; (with_reducible refine Calls.mono (raceBegun_any _) ?_); rintro e w1 ⟨rfl, hb1⟩; have HX_0 := hide hb1; clear hb1)
  go_upto_region 6 with (first
    | (go_at_call 10; (with_reducible refine Calls.mono (unhide HOT _ (unhide HX_0)) ?_); rintro e w2 ⟨a2, c2, rfl, hi2, hb2⟩; have HX_1 := hide (Below.next (unhide HX_0) hb2 (Nat.le_refl _)); clear HX_0; have HIX_1 := hide hi2; clear hi2 hb2)
    | (go_at_call 11; (with_reducible refine Calls.mono (unhide HOI _ (unhide HX_1)) ?_); rintro e w3 ⟨a3, c3, rfl, hi3, hb3⟩; have HX_2 := hide (Below.next (unhide HX_1) hb3 (Nat.le_refl _)); have HIX_2 := hide ((unhide HIX_1).below hb3); clear HX_1 HIX_1; have HIY_2 := hide hi3; clear hi3 hb3))
  clear HOT HOI
  go_upto_region 7 with (go_at_call 23; (with_reducible refine Calls.mono (unhide HAL _ _ _ _ _ (unhide HIX_2) (unhide HIY_2)) ?_); rintro e w4 ⟨a4, c4, rfl, hi4, hb4⟩; have HX_3 := hide (Below.next (unhide HX_2) hb4 (Nat.le_refl _)); have HIX_3 := hide ((unhide HIX_2).below hb4); have HIY_3 := hide ((unhide HIY_2).below hb4); clear HX_2 HIX_2 HIY_2; have HA_3 := hide hi4; clear hi4 hb4)
  have HX_4 := hide ((unhide HX_3).alloc (unhide HX_3).size (.cells #[.int .i64 0, .int .i64 0] 28))
  have HIX_4 := hide ((unhide HIX_3).below ((Below.refl _ _).alloc (Nat.le_refl _) (.cells #[.int .i64 0, .int .i64 0] 28)))
  have HIY_4 := hide ((unhide HIY_3).below ((Below.refl _ _).alloc (Nat.le_refl _) (.cells #[.int .i64 0, .int .i64 0] 28)))
  have HA_4 := hide ((unhide HA_3).below ((Below.refl _ _).alloc (Nat.le_refl _) (.cells #[.int .i64 0, .int .i64 0] 28)))
  have HF_4 := hide (new_block w4 (.cells #[.int .i64 0, .int .i64 0] 28))
  obtain ⟨F1, eF1⟩ : ∃ X, w4.heap.size = X := ⟨_, rfl⟩
  obtain ⟨W4, eW4⟩ : ∃ X, w4.alloc (.cells #[.int .i64 0, .int .i64 0] 28) = X := ⟨_, rfl⟩
  rw [eW4] at HX_4
  rw [eW4] at HIX_4
  rw [eW4] at HIY_4
  rw [eW4] at HA_4
  rw [eF1, eW4] at HF_4
  rw [eF1, eW4]
  clear eF1 eW4 HX_3 HIX_3 HIY_3 HA_3
  clear HAL
  go_upto_region 8 with (go_at_call 24; (with_reducible refine Calls.mono (unhide HFI _ _ _ _ _ (unhide HIX_4) (unhide HIY_4)) ?_); rintro e w5 ⟨rfl, hb5⟩; have HX_5 := hide (Below.next (unhide HX_4) hb5 (Nat.le_refl _)); have HIX_5 := hide ((unhide HIX_4).below hb5); have HIY_5 := hide ((unhide HIY_4).below hb5); have HA_5 := hide ((unhide HA_4).below hb5); have HF_5 := hide (keep_below (unhide HF_4) hb5); clear HX_4 HIX_4 HIY_4 HA_4 HF_4; clear hb5)
  have HX_6 := hide ((unhide HX_5).alloc (unhide HX_5).size (.cells #[.int .i64 6, .int .i64 0] 28))
  have HIX_6 := hide ((unhide HIX_5).below ((Below.refl _ _).alloc (Nat.le_refl _) (.cells #[.int .i64 6, .int .i64 0] 28)))
  have HIY_6 := hide ((unhide HIY_5).below ((Below.refl _ _).alloc (Nat.le_refl _) (.cells #[.int .i64 6, .int .i64 0] 28)))
  have HA_6 := hide ((unhide HA_5).below ((Below.refl _ _).alloc (Nat.le_refl _) (.cells #[.int .i64 6, .int .i64 0] 28)))
  have HF_6 := hide (keep_alloc (unhide HF_5) (.cells #[.int .i64 6, .int .i64 0] 28))
  have HP_6 := hide (new_block w5 (.cells #[.int .i64 6, .int .i64 0] 28))
  obtain ⟨F2, eF2⟩ : ∃ X, w5.heap.size = X := ⟨_, rfl⟩
  obtain ⟨W6, eW6⟩ : ∃ X, w5.alloc (.cells #[.int .i64 6, .int .i64 0] 28) = X := ⟨_, rfl⟩
  rw [eW6] at HX_6
  rw [eW6] at HIX_6
  rw [eW6] at HIY_6
  rw [eW6] at HA_6
  rw [eW6] at HF_6
  rw [eF2, eW6] at HP_6
  rw [eF2, eW6]
  clear eF2 eW6 HX_5 HIX_5 HIY_5 HA_5 HF_5
  clear HFI
  go_upto_region 9 with (go_at_call 15; (with_reducible refine Calls.mono (unhide HTF _ (unhide HX_6)) ?_); rintro e w6 ⟨rfl, hb6⟩; have HX_7 := hide (Below.next (unhide HX_6) hb6 (Nat.le_refl _)); have HIX_7 := hide ((unhide HIX_6).below hb6); have HIY_7 := hide ((unhide HIY_6).below hb6); have HA_7 := hide ((unhide HA_6).below hb6); have HF_7 := hide (keep_below (unhide HF_6) hb6); have HP_7 := hide (keep_below (unhide HP_6) hb6); clear HX_6 HIX_6 HIY_6 HA_6 HF_6 HP_6; clear hb6)
  have HX_8 := hide ((unhide HX_7).alloc (unhide HX_7).size (.cells #[.int .i64 0, .int .i64 0] 28))
  have HIX_8 := hide ((unhide HIX_7).below ((Below.refl _ _).alloc (Nat.le_refl _) (.cells #[.int .i64 0, .int .i64 0] 28)))
  have HIY_8 := hide ((unhide HIY_7).below ((Below.refl _ _).alloc (Nat.le_refl _) (.cells #[.int .i64 0, .int .i64 0] 28)))
  have HA_8 := hide ((unhide HA_7).below ((Below.refl _ _).alloc (Nat.le_refl _) (.cells #[.int .i64 0, .int .i64 0] 28)))
  have HF_8 := hide (keep_alloc (unhide HF_7) (.cells #[.int .i64 0, .int .i64 0] 28))
  have HP_8 := hide (keep_alloc (unhide HP_7) (.cells #[.int .i64 0, .int .i64 0] 28))
  have HD_8 := hide (new_block w6 (.cells #[.int .i64 0, .int .i64 0] 28))
  obtain ⟨D, eD⟩ : ∃ X, w6.heap.size = X := ⟨_, rfl⟩
  obtain ⟨W8, eW8⟩ : ∃ X, w6.alloc (.cells #[.int .i64 0, .int .i64 0] 28) = X := ⟨_, rfl⟩
  rw [eW8] at HX_8
  rw [eW8] at HIX_8
  rw [eW8] at HIY_8
  rw [eW8] at HA_8
  rw [eW8] at HF_8
  rw [eW8] at HP_8
  rw [eD, eW8] at HD_8
  rw [eD, eW8]
  clear eD eW8 HX_7 HIX_7 HIY_7 HA_7 HF_7 HP_7
  clear HTF
  go_upto_region 11 with (first
    | (go_at_call 16; (with_reducible refine Calls.mono (unhide HST _ _ _ (unhide HIX_8) (unhide HX_8)) ?_); rintro e w7 ⟨rfl, hb7⟩; have HX_9 := hide (Below.next (unhide HX_8) hb7 (Nat.le_refl _)); have HIX_9 := hide ((unhide HIX_8).below hb7); have HIY_9 := hide ((unhide HIY_8).below hb7); have HA_9 := hide ((unhide HA_8).below hb7); have HF_9 := hide (keep_below (unhide HF_8) hb7); have HP_9 := hide (keep_below (unhide HP_8) hb7); have HD_9 := hide (keep_below (unhide HD_8) hb7); clear HX_8 HIX_8 HIY_8 HA_8 HF_8 HP_8 HD_8; clear hb7)
    | (go_at_call 17; (with_reducible refine Calls.mono (unhide HIN _ _ _ (unhide HIY_9) (unhide HX_9)) ?_); rintro e w8 ⟨rfl, hb8⟩; have HX_10 := hide (Below.next (unhide HX_9) hb8 (Nat.le_refl _)); have HIX_10 := hide ((unhide HIX_9).below hb8); have HIY_10 := hide ((unhide HIY_9).below hb8); have HA_10 := hide ((unhide HA_9).below hb8); have HF_10 := hide (keep_below (unhide HF_9) hb8); have HP_10 := hide (keep_below (unhide HP_9) hb8); have HD_10 := hide (keep_below (unhide HD_9) hb8); clear HX_9 HIX_9 HIY_9 HA_9 HF_9 HP_9 HD_9; clear hb8))
  clear HST HIN
  clear HIX_10 HIY_10
  obtain ⟨g0, g1, gf0, gf1, gl⟩ := block2 (unhide HF_10)
  obtain ⟨p0, p1, pf0, pf1, pl⟩ := block2 (unhide HP_10)
  obtain ⟨q0, q1, qf0, qf1, ql⟩ := block2 (unhide HD_10)
  go_upto_region 13 with fail
  clear g0 g1 gf0 gf1 gl p0 p1 pf0 pf1 pl q0 q1 qf0 qf1 ql
  go_upto_region 14 with (go_at_call 25; (with_reducible refine Calls.mono (unhide HRO _ (unhide HX_10)) ?_); rintro e w9 ⟨a9, c9, rfl, hi9, hb9⟩; have HX_11 := hide (Below.next (unhide HX_10) hb9 (Nat.le_refl _)); have HA_11 := hide ((unhide HA_10).below hb9); have HF_11 := hide (keep_below (unhide HF_10) hb9); have HP_11 := hide (keep_below (unhide HP_10) hb9); have HD_11 := hide (keep_below (unhide HD_10) hb9); clear HX_10 HA_10 HF_10 HP_10 HD_10; have HQ_11 := hide hi9; clear hi9 hb9)
  clear HRO
  obtain ⟨q0, q1, qf0, qf1, ql⟩ := block2 (unhide HD_11)
  go_upto_region 15 with fail
  clear q0 q1 qf0 qf1 ql
  have HBV := hide ((Below.refl w9.heap.size w9).alloc (Nat.le_refl _) (.cells #[.int .i64 0, .int .i64 0] 28))
  have HVQ := hide (new_block w9 (.cells #[.int .i64 0, .int .i64 0] 28))
  obtain ⟨V, eV⟩ : ∃ X, w9.heap.size = X := ⟨_, rfl⟩
  obtain ⟨WV, eW⟩ : ∃ X, w9.alloc (.cells #[.int .i64 0, .int .i64 0] 28) = X := ⟨_, rfl⟩
  rw [eV, eW] at HBV HVQ
  rw [eV, eW]
  have HVS := hide eV
  clear eV eW
  obtain ⟨g0, g1, gf0, gf1, gl⟩ := block2 (unhide HVQ)
  go_upto_region 17 with (go_at_call 18; (with_reducible refine Calls.mono (F_any _ _ _) ?_); rintro e w11 ⟨rfl, hb11⟩; have HB2 := hide (Below.next (unhide HBV) hb11 (Nat.le_of_eq (unhide HVS).symm)); have HV2 := hide (keep_below (unhide HVQ) hb11); obtain ⟨k0, k1, kf0, kf1, kl⟩ := block2 (unhide HV2); clear hb11)
  have HB3 := hide (((unhide HB2).setCell (p := ⟨V, 0, none⟩) (Nat.le_refl V) (.int .i64 6)).setCell (p := ⟨V, 1, none⟩) (Nat.le_refl V) (.int .i64 0))
  have HV3 := hide (set2_block (x' := .int .i64 6) (y' := .int .i64 0) (unhide HV2))
  obtain ⟨W12, eW⟩ : ∃ X, (w11.setCell ⟨V, 0, none⟩ (.int .i64 6)).setCell ⟨V, 1, none⟩ (.int .i64 0) = X := ⟨_, rfl⟩
  rw [eW] at HB3 HV3
  rw [eW]
  clear eW g0 g1 gf0 gf1 gl k0 k1 kf0 kf1 kl HBV HVQ HB2 HV2
  have hb12 : Below w9.heap.size w9 W12 := by rw [unhide HVS]; exact unhide HB3
  (have HX_12 := hide (Below.next (unhide HX_11) hb12 (Nat.le_refl _)); have HA_12 := hide ((unhide HA_11).below hb12); have HF_12 := hide (keep_below (unhide HF_11) hb12); have HP_12 := hide (keep_below (unhide HP_11) hb12); have HD_12 := hide (keep_below (unhide HD_11) hb12); have HQ_12 := hide ((unhide HQ_11).below hb12); clear HX_11 HA_11 HF_11 HP_11 HD_11 HQ_11)
  clear hb12
  have HV_12 := HV3
  clear HV3
  obtain ⟨g0, g1, gf0, gf1, gl⟩ := block2 (unhide HF_12)
  obtain ⟨p0, p1, pf0, pf1, pl⟩ := block2 (unhide HP_12)
  obtain ⟨q0, q1, qf0, qf1, ql⟩ := block2 (unhide HV_12)
  have HSM := hide (pairs_same W12 _ _ (pairsL hs l n0) (unhide HA_12) (unhide HQ_12) (by rw [unhide HEN]; omega))
  go_wp2_with (go_at_call 26; (with_reducible refine Calls.mono (unhide HSM) ?_); rintro e w13 ⟨rfl, hb13⟩; have HX13 := hide (Below.next (unhide HX_12) hb13 (Nat.le_refl _)); clear hb13)
  go_ret
  exact ⟨rfl, unhide HX13⟩

set_option maxRecDepth 100000 in
set_option maxHeartbeats 4000000 in
theorem ra_big (w : World) (a0 : Option Addr) (n0 c0 : Nat) (a1 : Option Addr) (n1 c1 : Nat) (l : List Ev) (hs : List Int) (hl : IsL KE w (.slice a0 n0 c0) l) (hh : IsL KI w (.slice a1 n1 c1) hs) (h1 : ¬ 300 < n0) (h3 : ¬ 100 < n1) (hg : GoodT hs l) (k : Nat) (hk : firstR hs l = some k) (hbig0 : 5000 < (pairsL hs l n0).length) :
    Calls Try.prog 7 #[.slice a0 n0 c0, .slice a1 n1 c1] w fun e w' => e = .returned (.bool true) ∧ Below w.heap.size w w' := by
  have hln := hl.len
  have hhn := hh.len
  have g2 : ¬ (300 : Int) < (n0 : Int) := by omega
  have g3 : ¬ (100 : Int) < (n1 : Int) := by omega
  have hf := hg.zero
  obtain ⟨N, eN⟩ : ∃ X, (pairsL hs l n0).length = X := ⟨_, rfl⟩
  have HEN := hide eN
  obtain ⟨hN0, hXP⟩ := first_some hln hk
  rw [eN] at hN0
  have HN0 := hide hN0
  have HXP := hide hXP
  have xk : ((k : Int) != (k : Int)) = false := by simp
  have xN : ((N : Int) == 0) = false := by simp; omega
  clear hXP
  have hbig : 5000 < N := by rw [← eN]; exact hbig0
  have y1 : (5000 : Int) < (N : Int) := by omega
  have HOT : Hid (∀ W, Below w.heap.size w W → Calls Try.prog 10 #[.slice a0 n0 c0] W fun e w' => ∃ a' c', e = .returned (.slice a' n0 c') ∧ IsL KE w' (.slice a' n0 c') l ∧ Below W.heap.size W w') := fun W hW => by
    have h_ := ownTrace_any W _ l (hl.below hW) (by rw [hln]; omega)
    rw [hln] at h_
    exact h_.mono fun _ _ ⟨a', c', q1, q2, q3⟩ => ⟨a', c', q1, q2.isl, q3⟩
  have HOI : Hid (∀ W, Below w.heap.size w W → Calls Try.prog 11 #[.slice a1 n1 c1] W fun e w' => ∃ a' c', e = .returned (.slice a' n1 c') ∧ IsL KI w' (.slice a' n1 c') hs ∧ Below W.heap.size W w') := fun W hW => by
    have h_ := own_any W _ hs (hh.below hW) (by rw [hhn]; omega)
    rw [hhn] at h_
    exact h_.mono fun _ _ ⟨a', c', q1, q2, q3⟩ => ⟨a', c', q1, q2.isl, q3⟩
  have HAL : Hid (∀ W a c a' c', IsL KE W (.slice a n0 c) l → IsL KI W (.slice a' n1 c') hs → Calls Try.prog 23 #[.slice a n0 c, .slice a' n1 c'] W fun e w' => e = .returned (.tuple #[.slice none 0 0, .agg #[.int .i64 9, .int .i64 0]]) ∧ Below W.heap.size W w') := fun W a c a' c' q1 q2 => by
    have h_ := all_good W a n0 c a' n1 c' l hs q1 q2 hg
    refine h_.mono fun e w' ⟨r1, r2⟩ => ?_
    unfold AllIs at r1
    rw [hln, eN, if_pos hbig] at r1
    exact ⟨r1, r2⟩
  have HFI : Hid (∀ W a c a' c', IsL KE W (.slice a n0 c) l → IsL KI W (.slice a' n1 c') hs → Calls Try.prog 24 #[.slice a n0 c, .slice a' n1 c'] W fun e w' => e = .returned (.tuple #[.int .i64 (k : Int), .agg #[.int .i64 0, .int .i64 0]]) ∧ Below W.heap.size W w') := fun W a c a' c' q1 q2 => by
    have h_ := first_good W a n0 c a' n1 c' l hs q1 q2 hg
    refine h_.mono fun e w' ⟨r1, r2⟩ => ⟨?_, r2⟩
    unfold FirstIs at r1
    rw [hk] at r1
    exact r1
  have HTF : Hid (∀ W, Below w.heap.size w W → Calls Try.prog 15 #[.slice a0 n0 c0, .slice a1 n1 c1] W fun e w' => e = .returned (.agg #[.int .i64 0, .int .i64 0]) ∧ Below W.heap.size W w') := fun W hW => by
    have h_ := tf_any W a0 n0 c0 a1 n1 c1 l hs (hl.below hW) (hh.below hW)
    rwa [hf] at h_
  have HST : Hid (∀ W a c, IsL KE W (.slice a n0 c) l → Below w.heap.size w W → Calls Try.prog 16 #[.slice a n0 c, .slice a0 n0 c0] W fun e w' => e = .returned (.bool true) ∧ Below W.heap.size W w') := fun W a c q1 hW => trace_same W _ _ l q1 (hl.below hW) (by rw [hln]; omega)
  have HIN : Hid (∀ W a c, IsL KI W (.slice a n1 c) hs → Below w.heap.size w W → Calls Try.prog 17 #[.slice a n1 c, .slice a1 n1 c1] W fun e w' => e = .returned (.bool true) ∧ Below W.heap.size W w') := fun W a c q1 hW => ints_same W _ _ hs q1 (hh.below hW) (by rw [hhn]; unfold maxLen; omega)
  have HRO : Hid (∀ W, Below w.heap.size w W → Calls Try.prog 25 #[.slice a0 n0 c0, .slice a1 n1 c1] W fun e w' => ∃ a c, e = .returned (.slice a N c) ∧ IsL KP w' (.slice a N c) (pairsL hs l n0) ∧ Below W.heap.size W w') := fun W hW => by
    have h_ := racesOf_any W a0 n0 c0 a1 n1 c1 l hs (hl.below hW) (hh.below hW) hg (by omega)
    rw [eN] at h_
    exact h_.mono fun _ _ ⟨a, c, q1, q2, _, q3⟩ => ⟨a, c, q1, q2, q3⟩
  clear hl hh hln hhn hf hg
  go_enter Try.func7, Try.ntmps7
  go_upto_region 5 with (go_at_call 22; (with_reducible refine Calls.mono (raceBegun_any _) ?_); rintro e w1 ⟨rfl, hb1⟩; have HX_0 := hide hb1; clear hb1)
  go_upto_region 6 with (first
    | (go_at_call 10; (with_reducible refine Calls.mono (unhide HOT _ (unhide HX_0)) ?_); rintro e w2 ⟨a2, c2, rfl, hi2, hb2⟩; have HX_1 := hide (Below.next (unhide HX_0) hb2 (Nat.le_refl _)); clear HX_0; have HIX_1 := hide hi2; clear hi2 hb2)
    | (go_at_call 11; (with_reducible refine Calls.mono (unhide HOI _ (unhide HX_1)) ?_); rintro e w3 ⟨a3, c3, rfl, hi3, hb3⟩; have HX_2 := hide (Below.next (unhide HX_1) hb3 (Nat.le_refl _)); have HIX_2 := hide ((unhide HIX_1).below hb3); clear HX_1 HIX_1; have HIY_2 := hide hi3; clear hi3 hb3))
  clear HOT HOI
  go_upto_region 7 with (go_at_call 23; (with_reducible refine Calls.mono (unhide HAL _ _ _ _ _ (unhide HIX_2) (unhide HIY_2)) ?_); rintro e w4 ⟨rfl, hb4⟩; have HX_3 := hide (Below.next (unhide HX_2) hb4 (Nat.le_refl _)); have HIX_3 := hide ((unhide HIX_2).below hb4); have HIY_3 := hide ((unhide HIY_2).below hb4); clear HX_2 HIX_2 HIY_2; clear hb4)
  have HX_4 := hide ((unhide HX_3).alloc (unhide HX_3).size (.cells #[.int .i64 9, .int .i64 0] 28))
  have HIX_4 := hide ((unhide HIX_3).below ((Below.refl _ _).alloc (Nat.le_refl _) (.cells #[.int .i64 9, .int .i64 0] 28)))
  have HIY_4 := hide ((unhide HIY_3).below ((Below.refl _ _).alloc (Nat.le_refl _) (.cells #[.int .i64 9, .int .i64 0] 28)))
  have HF_4 := hide (new_block w4 (.cells #[.int .i64 9, .int .i64 0] 28))
  obtain ⟨F1, eF1⟩ : ∃ X, w4.heap.size = X := ⟨_, rfl⟩
  obtain ⟨W4, eW4⟩ : ∃ X, w4.alloc (.cells #[.int .i64 9, .int .i64 0] 28) = X := ⟨_, rfl⟩
  rw [eW4] at HX_4
  rw [eW4] at HIX_4
  rw [eW4] at HIY_4
  rw [eF1, eW4] at HF_4
  rw [eF1, eW4]
  clear eF1 eW4 HX_3 HIX_3 HIY_3
  clear HAL
  go_upto_region 8 with (go_at_call 24; (with_reducible refine Calls.mono (unhide HFI _ _ _ _ _ (unhide HIX_4) (unhide HIY_4)) ?_); rintro e w5 ⟨rfl, hb5⟩; have HX_5 := hide (Below.next (unhide HX_4) hb5 (Nat.le_refl _)); have HIX_5 := hide ((unhide HIX_4).below hb5); have HIY_5 := hide ((unhide HIY_4).below hb5); have HF_5 := hide (keep_below (unhide HF_4) hb5); clear HX_4 HIX_4 HIY_4 HF_4; clear hb5)
  have HX_6 := hide ((unhide HX_5).alloc (unhide HX_5).size (.cells #[.int .i64 0, .int .i64 0] 28))
  have HIX_6 := hide ((unhide HIX_5).below ((Below.refl _ _).alloc (Nat.le_refl _) (.cells #[.int .i64 0, .int .i64 0] 28)))
  have HIY_6 := hide ((unhide HIY_5).below ((Below.refl _ _).alloc (Nat.le_refl _) (.cells #[.int .i64 0, .int .i64 0] 28)))
  have HF_6 := hide (keep_alloc (unhide HF_5) (.cells #[.int .i64 0, .int .i64 0] 28))
  have HP_6 := hide (new_block w5 (.cells #[.int .i64 0, .int .i64 0] 28))
  obtain ⟨F2, eF2⟩ : ∃ X, w5.heap.size = X := ⟨_, rfl⟩
  obtain ⟨W6, eW6⟩ : ∃ X, w5.alloc (.cells #[.int .i64 0, .int .i64 0] 28) = X := ⟨_, rfl⟩
  rw [eW6] at HX_6
  rw [eW6] at HIX_6
  rw [eW6] at HIY_6
  rw [eW6] at HF_6
  rw [eF2, eW6] at HP_6
  rw [eF2, eW6]
  clear eF2 eW6 HX_5 HIX_5 HIY_5 HF_5
  clear HFI
  go_upto_region 9 with (go_at_call 15; (with_reducible refine Calls.mono (unhide HTF _ (unhide HX_6)) ?_); rintro e w6 ⟨rfl, hb6⟩; have HX_7 := hide (Below.next (unhide HX_6) hb6 (Nat.le_refl _)); have HIX_7 := hide ((unhide HIX_6).below hb6); have HIY_7 := hide ((unhide HIY_6).below hb6); have HF_7 := hide (keep_below (unhide HF_6) hb6); have HP_7 := hide (keep_below (unhide HP_6) hb6); clear HX_6 HIX_6 HIY_6 HF_6 HP_6; clear hb6)
  have HX_8 := hide ((unhide HX_7).alloc (unhide HX_7).size (.cells #[.int .i64 0, .int .i64 0] 28))
  have HIX_8 := hide ((unhide HIX_7).below ((Below.refl _ _).alloc (Nat.le_refl _) (.cells #[.int .i64 0, .int .i64 0] 28)))
  have HIY_8 := hide ((unhide HIY_7).below ((Below.refl _ _).alloc (Nat.le_refl _) (.cells #[.int .i64 0, .int .i64 0] 28)))
  have HF_8 := hide (keep_alloc (unhide HF_7) (.cells #[.int .i64 0, .int .i64 0] 28))
  have HP_8 := hide (keep_alloc (unhide HP_7) (.cells #[.int .i64 0, .int .i64 0] 28))
  have HD_8 := hide (new_block w6 (.cells #[.int .i64 0, .int .i64 0] 28))
  obtain ⟨D, eD⟩ : ∃ X, w6.heap.size = X := ⟨_, rfl⟩
  obtain ⟨W8, eW8⟩ : ∃ X, w6.alloc (.cells #[.int .i64 0, .int .i64 0] 28) = X := ⟨_, rfl⟩
  rw [eW8] at HX_8
  rw [eW8] at HIX_8
  rw [eW8] at HIY_8
  rw [eW8] at HF_8
  rw [eW8] at HP_8
  rw [eD, eW8] at HD_8
  rw [eD, eW8]
  clear eD eW8 HX_7 HIX_7 HIY_7 HF_7 HP_7
  clear HTF
  go_upto_region 11 with (first
    | (go_at_call 16; (with_reducible refine Calls.mono (unhide HST _ _ _ (unhide HIX_8) (unhide HX_8)) ?_); rintro e w7 ⟨rfl, hb7⟩; have HX_9 := hide (Below.next (unhide HX_8) hb7 (Nat.le_refl _)); have HIX_9 := hide ((unhide HIX_8).below hb7); have HIY_9 := hide ((unhide HIY_8).below hb7); have HF_9 := hide (keep_below (unhide HF_8) hb7); have HP_9 := hide (keep_below (unhide HP_8) hb7); have HD_9 := hide (keep_below (unhide HD_8) hb7); clear HX_8 HIX_8 HIY_8 HF_8 HP_8 HD_8; clear hb7)
    | (go_at_call 17; (with_reducible refine Calls.mono (unhide HIN _ _ _ (unhide HIY_9) (unhide HX_9)) ?_); rintro e w8 ⟨rfl, hb8⟩; have HX_10 := hide (Below.next (unhide HX_9) hb8 (Nat.le_refl _)); have HIX_10 := hide ((unhide HIX_9).below hb8); have HIY_10 := hide ((unhide HIY_9).below hb8); have HF_10 := hide (keep_below (unhide HF_9) hb8); have HP_10 := hide (keep_below (unhide HP_9) hb8); have HD_10 := hide (keep_below (unhide HD_9) hb8); clear HX_9 HIX_9 HIY_9 HF_9 HP_9 HD_9; clear hb8))
  clear HST HIN
  clear HIX_10 HIY_10
  obtain ⟨g0, g1, gf0, gf1, gl⟩ := block2 (unhide HF_10)
  obtain ⟨p0, p1, pf0, pf1, pl⟩ := block2 (unhide HP_10)
  obtain ⟨q0, q1, qf0, qf1, ql⟩ := block2 (unhide HD_10)
  go_upto_region 13 with fail
  clear g0 g1 gf0 gf1 gl p0 p1 pf0 pf1 pl q0 q1 qf0 qf1 ql
  go_upto_region 14 with (go_at_call 25; (with_reducible refine Calls.mono (unhide HRO _ (unhide HX_10)) ?_); rintro e w9 ⟨a9, c9, rfl, hi9, hb9⟩; have HX_11 := hide (Below.next (unhide HX_10) hb9 (Nat.le_refl _)); have HF_11 := hide (keep_below (unhide HF_10) hb9); have HP_11 := hide (keep_below (unhide HP_10) hb9); have HD_11 := hide (keep_below (unhide HD_10) hb9); clear HX_10 HF_10 HP_10 HD_10; have HQ_11 := hide hi9; clear hi9 hb9)
  clear HRO
  obtain ⟨q0, q1, qf0, qf1, ql⟩ := block2 (unhide HD_11)
  go_upto_region 15 with fail
  clear q0 q1 qf0 qf1 ql
  have HX_12 := hide ((unhide HX_11).alloc (unhide HX_11).size (.cells #[.int .i64 0, .int .i64 0] 28))
  have HF_12 := hide (keep_alloc (unhide HF_11) (.cells #[.int .i64 0, .int .i64 0] 28))
  have HP_12 := hide (keep_alloc (unhide HP_11) (.cells #[.int .i64 0, .int .i64 0] 28))
  have HD_12 := hide (keep_alloc (unhide HD_11) (.cells #[.int .i64 0, .int .i64 0] 28))
  have HQ_12 := hide ((unhide HQ_11).below ((Below.refl _ _).alloc (Nat.le_refl _) (.cells #[.int .i64 0, .int .i64 0] 28)))
  have HV_12 := hide (new_block w9 (.cells #[.int .i64 0, .int .i64 0] 28))
  obtain ⟨V, eV⟩ : ∃ X, w9.heap.size = X := ⟨_, rfl⟩
  obtain ⟨W12, eW12⟩ : ∃ X, w9.alloc (.cells #[.int .i64 0, .int .i64 0] 28) = X := ⟨_, rfl⟩
  rw [eW12] at HX_12
  rw [eW12] at HF_12
  rw [eW12] at HP_12
  rw [eW12] at HD_12
  rw [eW12] at HQ_12
  rw [eV, eW12] at HV_12
  rw [eV, eW12]
  clear eV eW12 HX_11 HF_11 HP_11 HD_11 HQ_11
  obtain ⟨g0, g1, gf0, gf1, gl⟩ := block2 (unhide HF_12)
  obtain ⟨p0, p1, pf0, pf1, pl⟩ := block2 (unhide HP_12)
  obtain ⟨q0, q1, qf0, qf1, ql⟩ := block2 (unhide HV_12)
  obtain ⟨b9, o9, rfl, _, hl9⟩ := (unhide HQ_12).opens kp (unhide HQ_12).len (unhide HN0)
  obtain ⟨x9, hx9⟩ := unhide HXP
  obtain ⟨m0, m1⟩ := hl9.pair (j := 0) (by rw [unhide HEN]; exact unhide HN0) hx9
  rw [Nat.zero_mul, Nat.add_zero] at m0 m1
  clear hl9 hx9
  go_upto_region 20 with fail
  go_region_held3 (fun W' => W'.cell? ⟨F1, 0, none⟩ = some (.int .i64 9) ∧ W'.cell? ⟨F1, 1, none⟩ = some (.int .i64 0))
    (first | exact ⟨g0, g1⟩ | exact unhide HS1)
    (first
      | (go_at_call 18; (with_reducible refine Calls.mono (F_any _ _ _) ?_); rintro e w13 ⟨rfl, hb13⟩; have HX13 := hide (Below.next (unhide HX_12).drew hb13 (Nat.le_refl _)); have HS1 : Hid (w13.cell? ⟨F1, 0, none⟩ = some (.int .i64 9) ∧ w13.cell? ⟨F1, 1, none⟩ = some (.int .i64 0)) := (by obtain ⟨y0, y1, _, _, _⟩ := block2 (keep_below (unhide HF_12) ((Below.refl W12.heap.size W12).drew.trans (hb13.mono (Nat.le_refl _)))); exact ⟨y0, y1⟩); clear hb13))
  go_wp2_with fail
  go_ret
  exact ⟨rfl, unhide HX13⟩

set_option maxRecDepth 100000 in
set_option maxHeartbeats 4000000 in
theorem ra_small (w : World) (a0 : Option Addr) (n0 c0 : Nat) (a1 : Option Addr) (n1 c1 : Nat) (l : List Ev) (hs : List Int) (hl : IsL KE w (.slice a0 n0 c0) l) (hh : IsL KI w (.slice a1 n1 c1) hs) (h1 : ¬ 300 < n0) (h3 : ¬ 100 < n1) (hg : GoodT hs l) (k : Nat) (hk : firstR hs l = some k) (hbig0 : ¬ 5000 < (pairsL hs l n0).length) :
    Calls Try.prog 7 #[.slice a0 n0 c0, .slice a1 n1 c1] w fun e w' => e = .returned (.bool true) ∧ Below w.heap.size w w' := by
  have hln := hl.len
  have hhn := hh.len
  have g2 : ¬ (300 : Int) < (n0 : Int) := by omega
  have g3 : ¬ (100 : Int) < (n1 : Int) := by omega
  have hf := hg.zero
  obtain ⟨N, eN⟩ : ∃ X, (pairsL hs l n0).length = X := ⟨_, rfl⟩
  have HEN := hide eN
  obtain ⟨hN0, hXP⟩ := first_some hln hk
  rw [eN] at hN0
  have HN0 := hide hN0
  have HXP := hide hXP
  have xk : ((k : Int) != (k : Int)) = false := by simp
  have xN : ((N : Int) == 0) = false := by simp; omega
  clear hXP
  have hbig : ¬ 5000 < N := by rw [← eN]; exact hbig0
  have y1 : ¬ (5000 : Int) < (N : Int) := by omega
  have HOT : Hid (∀ W, Below w.heap.size w W → Calls Try.prog 10 #[.slice a0 n0 c0] W fun e w' => ∃ a' c', e = .returned (.slice a' n0 c') ∧ IsL KE w' (.slice a' n0 c') l ∧ Below W.heap.size W w') := fun W hW => by
    have h_ := ownTrace_any W _ l (hl.below hW) (by rw [hln]; omega)
    rw [hln] at h_
    exact h_.mono fun _ _ ⟨a', c', q1, q2, q3⟩ => ⟨a', c', q1, q2.isl, q3⟩
  have HOI : Hid (∀ W, Below w.heap.size w W → Calls Try.prog 11 #[.slice a1 n1 c1] W fun e w' => ∃ a' c', e = .returned (.slice a' n1 c') ∧ IsL KI w' (.slice a' n1 c') hs ∧ Below W.heap.size W w') := fun W hW => by
    have h_ := own_any W _ hs (hh.below hW) (by rw [hhn]; omega)
    rw [hhn] at h_
    exact h_.mono fun _ _ ⟨a', c', q1, q2, q3⟩ => ⟨a', c', q1, q2.isl, q3⟩
  have HAL : Hid (∀ W a c a' c', IsL KE W (.slice a n0 c) l → IsL KI W (.slice a' n1 c') hs → Calls Try.prog 23 #[.slice a n0 c, .slice a' n1 c'] W fun e w' => ∃ a c, e = .returned (.tuple #[.slice a N c, .agg #[.int .i64 0, .int .i64 0]]) ∧ IsL KP w' (.slice a N c) (pairsL hs l n0) ∧ Below W.heap.size W w') := fun W a c a' c' q1 q2 => by
    have h_ := all_good W a n0 c a' n1 c' l hs q1 q2 hg
    refine h_.mono fun e w' ⟨r1, r2⟩ => ?_
    unfold AllIs at r1
    rw [hln, eN, if_neg hbig] at r1
    obtain ⟨a, c, r3, r4⟩ := r1
    exact ⟨a, c, r3, r4, r2⟩
  have HFI : Hid (∀ W a c a' c', IsL KE W (.slice a n0 c) l → IsL KI W (.slice a' n1 c') hs → Calls Try.prog 24 #[.slice a n0 c, .slice a' n1 c'] W fun e w' => e = .returned (.tuple #[.int .i64 (k : Int), .agg #[.int .i64 0, .int .i64 0]]) ∧ Below W.heap.size W w') := fun W a c a' c' q1 q2 => by
    have h_ := first_good W a n0 c a' n1 c' l hs q1 q2 hg
    refine h_.mono fun e w' ⟨r1, r2⟩ => ⟨?_, r2⟩
    unfold FirstIs at r1
    rw [hk] at r1
    exact r1
  have HTF : Hid (∀ W, Below w.heap.size w W → Calls Try.prog 15 #[.slice a0 n0 c0, .slice a1 n1 c1] W fun e w' => e = .returned (.agg #[.int .i64 0, .int .i64 0]) ∧ Below W.heap.size W w') := fun W hW => by
    have h_ := tf_any W a0 n0 c0 a1 n1 c1 l hs (hl.below hW) (hh.below hW)
    rwa [hf] at h_
  have HST : Hid (∀ W a c, IsL KE W (.slice a n0 c) l → Below w.heap.size w W → Calls Try.prog 16 #[.slice a n0 c, .slice a0 n0 c0] W fun e w' => e = .returned (.bool true) ∧ Below W.heap.size W w') := fun W a c q1 hW => trace_same W _ _ l q1 (hl.below hW) (by rw [hln]; omega)
  have HIN : Hid (∀ W a c, IsL KI W (.slice a n1 c) hs → Below w.heap.size w W → Calls Try.prog 17 #[.slice a n1 c, .slice a1 n1 c1] W fun e w' => e = .returned (.bool true) ∧ Below W.heap.size W w') := fun W a c q1 hW => ints_same W _ _ hs q1 (hh.below hW) (by rw [hhn]; unfold maxLen; omega)
  have HRO : Hid (∀ W, Below w.heap.size w W → Calls Try.prog 25 #[.slice a0 n0 c0, .slice a1 n1 c1] W fun e w' => ∃ a c, e = .returned (.slice a N c) ∧ IsL KP w' (.slice a N c) (pairsL hs l n0) ∧ Below W.heap.size W w') := fun W hW => by
    have h_ := racesOf_any W a0 n0 c0 a1 n1 c1 l hs (hl.below hW) (hh.below hW) hg (by omega)
    rw [eN] at h_
    exact h_.mono fun _ _ ⟨a, c, q1, q2, _, q3⟩ => ⟨a, c, q1, q2, q3⟩
  clear hl hh hln hhn hf hg
  go_enter Try.func7, Try.ntmps7
  go_upto_region 5 with (go_at_call 22; (with_reducible refine Calls.mono (raceBegun_any _) ?_); rintro e w1 ⟨rfl, hb1⟩; have HX_0 := hide hb1; clear hb1)
  go_upto_region 6 with (first
    | (go_at_call 10; (with_reducible refine Calls.mono (unhide HOT _ (unhide HX_0)) ?_); rintro e w2 ⟨a2, c2, rfl, hi2, hb2⟩; have HX_1 := hide (Below.next (unhide HX_0) hb2 (Nat.le_refl _)); clear HX_0; have HIX_1 := hide hi2; clear hi2 hb2)
    | (go_at_call 11; (with_reducible refine Calls.mono (unhide HOI _ (unhide HX_1)) ?_); rintro e w3 ⟨a3, c3, rfl, hi3, hb3⟩; have HX_2 := hide (Below.next (unhide HX_1) hb3 (Nat.le_refl _)); have HIX_2 := hide ((unhide HIX_1).below hb3); clear HX_1 HIX_1; have HIY_2 := hide hi3; clear hi3 hb3))
  clear HOT HOI
  go_upto_region 7 with (go_at_call 23; (with_reducible refine Calls.mono (unhide HAL _ _ _ _ _ (unhide HIX_2) (unhide HIY_2)) ?_); rintro e w4 ⟨a4, c4, rfl, hi4, hb4⟩; have HX_3 := hide (Below.next (unhide HX_2) hb4 (Nat.le_refl _)); have HIX_3 := hide ((unhide HIX_2).below hb4); have HIY_3 := hide ((unhide HIY_2).below hb4); clear HX_2 HIX_2 HIY_2; have HA_3 := hide hi4; clear hi4 hb4)
  have HX_4 := hide ((unhide HX_3).alloc (unhide HX_3).size (.cells #[.int .i64 0, .int .i64 0] 28))
  have HIX_4 := hide ((unhide HIX_3).below ((Below.refl _ _).alloc (Nat.le_refl _) (.cells #[.int .i64 0, .int .i64 0] 28)))
  have HIY_4 := hide ((unhide HIY_3).below ((Below.refl _ _).alloc (Nat.le_refl _) (.cells #[.int .i64 0, .int .i64 0] 28)))
  have HA_4 := hide ((unhide HA_3).below ((Below.refl _ _).alloc (Nat.le_refl _) (.cells #[.int .i64 0, .int .i64 0] 28)))
  have HF_4 := hide (new_block w4 (.cells #[.int .i64 0, .int .i64 0] 28))
  obtain ⟨F1, eF1⟩ : ∃ X, w4.heap.size = X := ⟨_, rfl⟩
  obtain ⟨W4, eW4⟩ : ∃ X, w4.alloc (.cells #[.int .i64 0, .int .i64 0] 28) = X := ⟨_, rfl⟩
  rw [eW4] at HX_4
  rw [eW4] at HIX_4
  rw [eW4] at HIY_4
  rw [eW4] at HA_4
  rw [eF1, eW4] at HF_4
  rw [eF1, eW4]
  clear eF1 eW4 HX_3 HIX_3 HIY_3 HA_3
  clear HAL
  go_upto_region 8 with (go_at_call 24; (with_reducible refine Calls.mono (unhide HFI _ _ _ _ _ (unhide HIX_4) (unhide HIY_4)) ?_); rintro e w5 ⟨rfl, hb5⟩; have HX_5 := hide (Below.next (unhide HX_4) hb5 (Nat.le_refl _)); have HIX_5 := hide ((unhide HIX_4).below hb5); have HIY_5 := hide ((unhide HIY_4).below hb5); have HA_5 := hide ((unhide HA_4).below hb5); have HF_5 := hide (keep_below (unhide HF_4) hb5); clear HX_4 HIX_4 HIY_4 HA_4 HF_4; clear hb5)
  have HX_6 := hide ((unhide HX_5).alloc (unhide HX_5).size (.cells #[.int .i64 0, .int .i64 0] 28))
  have HIX_6 := hide ((unhide HIX_5).below ((Below.refl _ _).alloc (Nat.le_refl _) (.cells #[.int .i64 0, .int .i64 0] 28)))
  have HIY_6 := hide ((unhide HIY_5).below ((Below.refl _ _).alloc (Nat.le_refl _) (.cells #[.int .i64 0, .int .i64 0] 28)))
  have HA_6 := hide ((unhide HA_5).below ((Below.refl _ _).alloc (Nat.le_refl _) (.cells #[.int .i64 0, .int .i64 0] 28)))
  have HF_6 := hide (keep_alloc (unhide HF_5) (.cells #[.int .i64 0, .int .i64 0] 28))
  have HP_6 := hide (new_block w5 (.cells #[.int .i64 0, .int .i64 0] 28))
  obtain ⟨F2, eF2⟩ : ∃ X, w5.heap.size = X := ⟨_, rfl⟩
  obtain ⟨W6, eW6⟩ : ∃ X, w5.alloc (.cells #[.int .i64 0, .int .i64 0] 28) = X := ⟨_, rfl⟩
  rw [eW6] at HX_6
  rw [eW6] at HIX_6
  rw [eW6] at HIY_6
  rw [eW6] at HA_6
  rw [eW6] at HF_6
  rw [eF2, eW6] at HP_6
  rw [eF2, eW6]
  clear eF2 eW6 HX_5 HIX_5 HIY_5 HA_5 HF_5
  clear HFI
  go_upto_region 9 with (go_at_call 15; (with_reducible refine Calls.mono (unhide HTF _ (unhide HX_6)) ?_); rintro e w6 ⟨rfl, hb6⟩; have HX_7 := hide (Below.next (unhide HX_6) hb6 (Nat.le_refl _)); have HIX_7 := hide ((unhide HIX_6).below hb6); have HIY_7 := hide ((unhide HIY_6).below hb6); have HA_7 := hide ((unhide HA_6).below hb6); have HF_7 := hide (keep_below (unhide HF_6) hb6); have HP_7 := hide (keep_below (unhide HP_6) hb6); clear HX_6 HIX_6 HIY_6 HA_6 HF_6 HP_6; clear hb6)
  have HX_8 := hide ((unhide HX_7).alloc (unhide HX_7).size (.cells #[.int .i64 0, .int .i64 0] 28))
  have HIX_8 := hide ((unhide HIX_7).below ((Below.refl _ _).alloc (Nat.le_refl _) (.cells #[.int .i64 0, .int .i64 0] 28)))
  have HIY_8 := hide ((unhide HIY_7).below ((Below.refl _ _).alloc (Nat.le_refl _) (.cells #[.int .i64 0, .int .i64 0] 28)))
  have HA_8 := hide ((unhide HA_7).below ((Below.refl _ _).alloc (Nat.le_refl _) (.cells #[.int .i64 0, .int .i64 0] 28)))
  have HF_8 := hide (keep_alloc (unhide HF_7) (.cells #[.int .i64 0, .int .i64 0] 28))
  have HP_8 := hide (keep_alloc (unhide HP_7) (.cells #[.int .i64 0, .int .i64 0] 28))
  have HD_8 := hide (new_block w6 (.cells #[.int .i64 0, .int .i64 0] 28))
  obtain ⟨D, eD⟩ : ∃ X, w6.heap.size = X := ⟨_, rfl⟩
  obtain ⟨W8, eW8⟩ : ∃ X, w6.alloc (.cells #[.int .i64 0, .int .i64 0] 28) = X := ⟨_, rfl⟩
  rw [eW8] at HX_8
  rw [eW8] at HIX_8
  rw [eW8] at HIY_8
  rw [eW8] at HA_8
  rw [eW8] at HF_8
  rw [eW8] at HP_8
  rw [eD, eW8] at HD_8
  rw [eD, eW8]
  clear eD eW8 HX_7 HIX_7 HIY_7 HA_7 HF_7 HP_7
  clear HTF
  go_upto_region 11 with (first
    | (go_at_call 16; (with_reducible refine Calls.mono (unhide HST _ _ _ (unhide HIX_8) (unhide HX_8)) ?_); rintro e w7 ⟨rfl, hb7⟩; have HX_9 := hide (Below.next (unhide HX_8) hb7 (Nat.le_refl _)); have HIX_9 := hide ((unhide HIX_8).below hb7); have HIY_9 := hide ((unhide HIY_8).below hb7); have HA_9 := hide ((unhide HA_8).below hb7); have HF_9 := hide (keep_below (unhide HF_8) hb7); have HP_9 := hide (keep_below (unhide HP_8) hb7); have HD_9 := hide (keep_below (unhide HD_8) hb7); clear HX_8 HIX_8 HIY_8 HA_8 HF_8 HP_8 HD_8; clear hb7)
    | (go_at_call 17; (with_reducible refine Calls.mono (unhide HIN _ _ _ (unhide HIY_9) (unhide HX_9)) ?_); rintro e w8 ⟨rfl, hb8⟩; have HX_10 := hide (Below.next (unhide HX_9) hb8 (Nat.le_refl _)); have HIX_10 := hide ((unhide HIX_9).below hb8); have HIY_10 := hide ((unhide HIY_9).below hb8); have HA_10 := hide ((unhide HA_9).below hb8); have HF_10 := hide (keep_below (unhide HF_9) hb8); have HP_10 := hide (keep_below (unhide HP_9) hb8); have HD_10 := hide (keep_below (unhide HD_9) hb8); clear HX_9 HIX_9 HIY_9 HA_9 HF_9 HP_9 HD_9; clear hb8))
  clear HST HIN
  clear HIX_10 HIY_10
  obtain ⟨g0, g1, gf0, gf1, gl⟩ := block2 (unhide HF_10)
  obtain ⟨p0, p1, pf0, pf1, pl⟩ := block2 (unhide HP_10)
  obtain ⟨q0, q1, qf0, qf1, ql⟩ := block2 (unhide HD_10)
  go_upto_region 13 with fail
  clear g0 g1 gf0 gf1 gl p0 p1 pf0 pf1 pl q0 q1 qf0 qf1 ql
  go_upto_region 14 with (go_at_call 25; (with_reducible refine Calls.mono (unhide HRO _ (unhide HX_10)) ?_); rintro e w9 ⟨a9, c9, rfl, hi9, hb9⟩; have HX_11 := hide (Below.next (unhide HX_10) hb9 (Nat.le_refl _)); have HA_11 := hide ((unhide HA_10).below hb9); have HF_11 := hide (keep_below (unhide HF_10) hb9); have HP_11 := hide (keep_below (unhide HP_10) hb9); have HD_11 := hide (keep_below (unhide HD_10) hb9); clear HX_10 HA_10 HF_10 HP_10 HD_10; have HQ_11 := hide hi9; clear hi9 hb9)
  clear HRO
  obtain ⟨q0, q1, qf0, qf1, ql⟩ := block2 (unhide HD_11)
  go_upto_region 15 with fail
  clear q0 q1 qf0 qf1 ql
  have HX_12 := hide ((unhide HX_11).alloc (unhide HX_11).size (.cells #[.int .i64 0, .int .i64 0] 28))
  have HA_12 := hide ((unhide HA_11).below ((Below.refl _ _).alloc (Nat.le_refl _) (.cells #[.int .i64 0, .int .i64 0] 28)))
  have HF_12 := hide (keep_alloc (unhide HF_11) (.cells #[.int .i64 0, .int .i64 0] 28))
  have HP_12 := hide (keep_alloc (unhide HP_11) (.cells #[.int .i64 0, .int .i64 0] 28))
  have HD_12 := hide (keep_alloc (unhide HD_11) (.cells #[.int .i64 0, .int .i64 0] 28))
  have HQ_12 := hide ((unhide HQ_11).below ((Below.refl _ _).alloc (Nat.le_refl _) (.cells #[.int .i64 0, .int .i64 0] 28)))
  have HV_12 := hide (new_block w9 (.cells #[.int .i64 0, .int .i64 0] 28))
  obtain ⟨V, eV⟩ : ∃ X, w9.heap.size = X := ⟨_, rfl⟩
  obtain ⟨W12, eW12⟩ : ∃ X, w9.alloc (.cells #[.int .i64 0, .int .i64 0] 28) = X := ⟨_, rfl⟩
  rw [eW12] at HX_12
  rw [eW12] at HA_12
  rw [eW12] at HF_12
  rw [eW12] at HP_12
  rw [eW12] at HD_12
  rw [eW12] at HQ_12
  rw [eV, eW12] at HV_12
  rw [eV, eW12]
  clear eV eW12 HX_11 HA_11 HF_11 HP_11 HD_11 HQ_11
  obtain ⟨g0, g1, gf0, gf1, gl⟩ := block2 (unhide HF_12)
  obtain ⟨p0, p1, pf0, pf1, pl⟩ := block2 (unhide HP_12)
  obtain ⟨q0, q1, qf0, qf1, ql⟩ := block2 (unhide HV_12)
  obtain ⟨b9, o9, rfl, _, hl9⟩ := (unhide HQ_12).opens kp (unhide HQ_12).len (unhide HN0)
  obtain ⟨x9, hx9⟩ := unhide HXP
  obtain ⟨m0, m1⟩ := hl9.pair (j := 0) (by rw [unhide HEN]; exact unhide HN0) hx9
  rw [Nat.zero_mul, Nat.add_zero] at m0 m1
  clear hl9 hx9
  have HSM := hide (pairs_same W12 _ _ (pairsL hs l n0) (unhide HA_12) (unhide HQ_12) (by rw [unhide HEN]; omega))
  go_wp2_with (go_at_call 26; (with_reducible refine Calls.mono (unhide HSM) ?_); rintro e w13 ⟨rfl, hb13⟩; have HX13 := hide (Below.next (unhide HX_12) hb13 (Nat.le_refl _)); clear hb13)
  go_ret
  exact ⟨rfl, unhide HX13⟩

theorem all_walk (w : World) (v0 : Value) (l : List Ev) (v1 : Value) (hs : List Int) (hl : IsL KE w v0 l) (_ml : l.length * 32 ≤ 140737488355328) (hh : IsL KI w v1 hs) (_mh : hs.length * 8 ≤ 140737488355328) :
    Calls Try.prog 7 #[v0, v1] w fun e w' => e = .returned (.bool true) ∧ Below w.heap.size w w' := by
  obtain ⟨a0, c0, rfl⟩ := hl.form
  obtain ⟨a1, c1, rfl⟩ := hh.form
  by_cases h1 : 300 < l.length
  · exact ra_long w a0 _ c0 a1 _ c1 h1
  · by_cases h3 : 100 < hs.length
    · exact ra_pipes w a0 _ c0 a1 _ c1 h1 h3
    · obtain ⟨⟨fc, fa⟩, hf⟩ : ∃ X, checkF hs l = X := ⟨_, rfl⟩
      by_cases hfc : fc = 0
      · have hg : GoodT hs l := good_of (by rw [hf]; exact hfc)
        cases hk : firstR hs l with
        | none => exact ra_none w a0 _ c0 a1 _ c1 l hs hl hh h1 h3 hg hk
        | some k =>
          by_cases hb : 5000 < (pairsL hs l l.length).length
          · exact ra_big w a0 _ c0 a1 _ c1 l hs hl hh h1 h3 hg k hk hb
          · exact ra_small w a0 _ c0 a1 _ c1 l hs hl hh h1 h3 hg k hk hb
      · exact ra_fault w a0 _ c0 a1 _ c1 l hs hl hh h1 h3 fc fa hf hfc
end Go.Proofs.Ytbnmeeabpjmcoaa
