/-
  taskmilllaw.PollTimes up to Tick, one theorem a way.
-/
import Derived.Test.YtmghfedlpndpiaaTi
namespace Go.Proofs.Ytmghfedlpndpiaa
open Go.RowKit

set_option maxRecDepth 100000 in
set_option maxHeartbeats 4000000 in
theorem times0_not (w : World) (r0 r1 : Bool) (t0 t1 u0 u1 whn now : Int) (b0 b1 b2 : Bool) (b3 b4 b5 b6 : Int) (L : List Int) (G0 G1 : Int) (c0 : Bool) (M : List Int) (p : Bool) (hC : descF false r0 r1 t0 t1 u0 u1 = (0, 0)) (h1 : ¬ whn < 0) (h2 : ¬ 1000000000 < whn) (h3 : ¬ now < 0) (h4 : ¬ 1000000000 < now) (h5 : late whn now = false) (hR1 : tickR false r0 r1 t0 t1 u0 u1 now (0, 0) = ((b0, b1, b2, b3, b4, b5, b6), L, (G0, G1))) (hR2 : closeR false t0 t1 (0, 0) = (c0, M, p)) :
    Calls Try.prog 4 #[.agg #[.bool false, .bool r0, .bool r1, .int .i64 t0, .int .i64 t1, .int .i64 u0, .int .i64 u1], .int .i64 0, .int .i64 whn, .int .i64 now] w fun e w' => e = .returned (.bool true) ∧ Below w.heap.size w w' := by
  have HUN : Hid (∀ W, Calls Try.prog 14 #[.agg #[.bool false, .bool r0, .bool r1, .int .i64 t0, .int .i64 t1, .int .i64 u0, .int .i64 u1], .int .i64 0, .int .i64 whn, .int .i64 now] W fun e w' => e = .returned (.tuple #[.agg #[.bool false, .bool r0, .bool r1, .int .i64 t0, .int .i64 t1, .int .i64 whn, .int .i64 u1], .int .i64 0, .agg #[.int .i64 0, .int .i64 0]]) ∧ Below W.heap.size W w') := fun W => until0_not W false r0 r1 t0 t1 u0 u1 whn now 0 0 0 hC (show untilF (onF (0, 0) 0) false whn now = (0, 0) by rw [show onF (0, 0) 0 = (0, 0) from by decide]; unfold untilF; rw [if_neg (by simp), if_neg (by omega), if_neg (by decide)]) h5
  have HTK : Hid (∀ W, Calls Try.prog 15 #[.agg #[.bool false, .bool r0, .bool r1, .int .i64 t0, .int .i64 t1, .int .i64 u0, .int .i64 u1], .int .i64 now] W fun e w' => ∃ a k, e = .returned (.tuple #[.agg #[.bool b0, .bool b1, .bool b2, .int .i64 b3, .int .i64 b4, .int .i64 b5, .int .i64 b6], .slice a L.length k, .agg #[.int .i64 G0, .int .i64 G1]]) ∧ Own KI W.heap.size w' (.slice a L.length k) L ∧ Below W.heap.size W w') := fun W => tick_all W false r0 r1 t0 t1 u0 u1 now 0 0 hC b0 b1 b2 b3 b4 b5 b6 L G0 G1 hR1
  have HCL : Hid (∀ W, Calls Try.prog 16 #[.agg #[.bool false, .bool r0, .bool r1, .int .i64 t0, .int .i64 t1, .int .i64 u0, .int .i64 u1]] W fun e w' => ∃ a k, e = .returned (.tuple #[.agg #[.bool c0, .bool false, .bool false, .int .i64 0, .int .i64 0, .int .i64 0, .int .i64 0], .slice a M.length k, .bool p, .agg #[.int .i64 0, .int .i64 0]]) ∧ Own KI W.heap.size w' (.slice a M.length k) M ∧ Below W.heap.size W w') := fun W => close_all W false r0 r1 t0 t1 u0 u1 0 0 hC c0 M p hR2
  have HWF : Hid (∀ W, Calls Try.prog 11 #[.agg #[.bool false, .bool r0, .bool r1, .int .i64 t0, .int .i64 t1, .int .i64 u0, .int .i64 u1], .int .i64 0] W fun e w' => e = .returned (.agg #[.int .i64 0, .int .i64 0]) ∧ Below W.heap.size W w') := fun W => wayFault_any W false r0 r1 t0 t1 u0 u1 0 0 0 0 0 hC (show onF (0, 0) 0 = (0, 0) by decide)
  have HIL : Hid (∀ W, Calls Try.prog 13 #[.agg #[.bool false, .bool r0, .bool r1, .int .i64 t0, .int .i64 t1, .int .i64 whn, .int .i64 u1], .int .i64 0, .int .i64 now] W fun e w' => e = .returned (.bool (late whn now)) ∧ Below W.heap.size W w') := fun W => isLate0_any W false r0 r1 t0 t1 whn u1 now
  rw [h5] at HIL
  clear h5
  obtain ⟨n, en⟩ : ∃ n, L.length = n := ⟨_, rfl⟩
  obtain ⟨m, em⟩ : ∃ m, M.length = m := ⟨_, rfl⟩
  rw [en] at HTK; rw [em] at HCL
  have HN := hide en; have HM := hide em; have HR1 := hide hR1; have HR2 := hide hR2; have HC0 := hide hC
  clear en em hR1 hR2 hC
  have xi := arr_i; have xb := arr_b
  have xbb : ∀ b : Bool, (b == b) = true := fun b => by cases b <;> rfl
  have xii : ∀ b : Int, (b == b) = true := fun b => by simp
  obtain ⟨W0, e0, hB, k0⟩ := one_new w (.cells #[.bool false, .bool r0, .bool r1, .int .i64 t0, .int .i64 t1, .int .i64 u0, .int .i64 u1] 25)
  have HX := hide hB; have HE := hide e0; have HD := hide k0
  clear hB e0 k0
  go_enter Try.func4, Try.ntmps4
  go_upto_region 1 with fail
  rw [unhide HE]
  clear HE
  obtain ⟨⟨p0, p1, p2, p3, p4, p5, p6⟩, ⟨pf0, pf1, pf2, pf3, pf4, pf5, pf6⟩, pl⟩ := block7 (unhide HD)
  go_upto_region 2 with (go_at_call 14; refine (unhide HUN _).mono ?_; rintro e w1 ⟨rfl, hb1⟩; have HX_1 := hide (Below.next (unhide HX) hb1 (by first | exact Nat.le_refl _ | (have := unhide HBA; omega))); have Kd_1 := hide (keep_below (unhide HD) hb1); clear HX HD; clear hb1 HUN p0 p1 p2 p3 p4 p5 p6 pf0 pf1 pf2 pf3 pf4 pf5 pf6 pl)
  obtain ⟨W1, eW1, hBW1, k0_2, k1_2⟩ := two_new w1 (.cells #[.bool false, .bool r0, .bool r1, .int .i64 t0, .int .i64 t1, .int .i64 whn, .int .i64 u1] 25) (.cells #[.int .i64 0, .int .i64 0] 27)
  rw [eW1]
  clear eW1
  have hld_a : w.heap.size < w1.heap.size := size_of (unhide Kd_1)
  (have HX_2 := hide (Below.next (unhide HX_1) hBW1 (by first | exact Nat.le_refl _ | (have := unhide HBA; omega))); have Kd_2 := hide (keep_below (unhide Kd_1) hBW1); clear HX_1 Kd_1)
  obtain ⟨TA, eTA⟩ : ∃ X, w1.heap.size = X := ⟨_, rfl⟩
  rw [eTA] at k0_2 k1_2 hld_a ⊢
  have Ka_2 := hide k0_2
  have Kf1_2 := hide k1_2
  clear eTA hBW1 k0_2 k1_2
  obtain ⟨⟨p0, p1, p2, p3, p4, p5, p6⟩, ⟨pf0, pf1, pf2, pf3, pf4, pf5, pf6⟩, pl⟩ := block7 (unhide Kd_2)
  go_upto_region 3 with (go_at_call 15; refine (unhide HTK _).mono ?_; rintro e w2 ⟨la, lk, rfl, hol, hb2⟩; have HOL := hide (hol.base (unhide HX_2).size); have HX_3 := hide (Below.next (unhide HX_2) hb2 (by first | exact Nat.le_refl _ | (have := unhide HBA; omega))); have Kd_3 := hide (keep_below (unhide Kd_2) hb2); have Ka_3 := hide (keep_below (unhide Ka_2) hb2); have Kf1_3 := hide (keep_below (unhide Kf1_2) hb2); clear HX_2 Kd_2 Ka_2 Kf1_2; clear hb2 hol HTK p0 p1 p2 p3 p4 p5 p6 pf0 pf1 pf2 pf3 pf4 pf5 pf6 pl)
  obtain ⟨W2, eW2, hBW2, k0_4, k1_4⟩ := two_new w2 (.cells #[.bool b0, .bool b1, .bool b2, .int .i64 b3, .int .i64 b4, .int .i64 b5, .int .i64 b6] 25) (.cells #[.int .i64 G0, .int .i64 G1] 27)
  rw [eW2]
  clear eW2
  have hld_b : w.heap.size < w2.heap.size := size_of (unhide Kd_3)
  have hla_b : TA < w2.heap.size := size_of (unhide Ka_3)
  have hlf1_b : TA + 1 < w2.heap.size := size_of (unhide Kf1_3)
  (have HX_4 := hide (Below.next (unhide HX_3) hBW2 (by first | exact Nat.le_refl _ | (have := unhide HBA; omega))); have Kd_4 := hide (keep_below (unhide Kd_3) hBW2); have Ka_4 := hide (keep_below (unhide Ka_3) hBW2); have Kf1_4 := hide (keep_below (unhide Kf1_3) hBW2); have Ol_4 := hide ((unhide HOL).below hBW2); clear HX_3 Kd_3 Ka_3 Kf1_3 HOL)
  obtain ⟨TB, eTB⟩ : ∃ X, w2.heap.size = X := ⟨_, rfl⟩
  rw [eTB] at k0_4 k1_4 hld_b hla_b hlf1_b ⊢
  have Kb_4 := hide k0_4
  have Kf2_4 := hide k1_4
  clear eTB hBW2 k0_4 k1_4
  obtain ⟨⟨p0, p1, p2, p3, p4, p5, p6⟩, ⟨pf0, pf1, pf2, pf3, pf4, pf5, pf6⟩, pl⟩ := block7 (unhide Kd_4)
  go_upto_region 4 with (go_at_call 16; refine (unhide HCL _).mono ?_; rintro e w3 ⟨ma, mk, rfl, hom, hb3⟩; have HOM := hide (hom.base (unhide HX_4).size); have HX_5 := hide (Below.next (unhide HX_4) hb3 (by first | exact Nat.le_refl _ | (have := unhide HBA; omega))); have Kd_5 := hide (keep_below (unhide Kd_4) hb3); have Ka_5 := hide (keep_below (unhide Ka_4) hb3); have Kf1_5 := hide (keep_below (unhide Kf1_4) hb3); have Kb_5 := hide (keep_below (unhide Kb_4) hb3); have Kf2_5 := hide (keep_below (unhide Kf2_4) hb3); have Ol_5 := hide ((unhide Ol_4).below hb3); clear HX_4 Kd_4 Ka_4 Kf1_4 Kb_4 Kf2_4 Ol_4; clear hb3 hom HCL p0 p1 p2 p3 p4 p5 p6 pf0 pf1 pf2 pf3 pf4 pf5 pf6 pl)
  obtain ⟨W3, eW3, hBW3, k0_6, k1_6⟩ := two_new w3 (.cells #[.bool c0, .bool false, .bool false, .int .i64 0, .int .i64 0, .int .i64 0, .int .i64 0] 25) (.cells #[.int .i64 0, .int .i64 0] 27)
  rw [eW3]
  clear eW3
  have hld_c : w.heap.size < w3.heap.size := size_of (unhide Kd_5)
  have hla_c : TA < w3.heap.size := size_of (unhide Ka_5)
  have hlf1_c : TA + 1 < w3.heap.size := size_of (unhide Kf1_5)
  have hlb_c : TB < w3.heap.size := size_of (unhide Kb_5)
  have hlf2_c : TB + 1 < w3.heap.size := size_of (unhide Kf2_5)
  (have HX_6 := hide (Below.next (unhide HX_5) hBW3 (by first | exact Nat.le_refl _ | (have := unhide HBA; omega))); have Kd_6 := hide (keep_below (unhide Kd_5) hBW3); have Ka_6 := hide (keep_below (unhide Ka_5) hBW3); have Kf1_6 := hide (keep_below (unhide Kf1_5) hBW3); have Kb_6 := hide (keep_below (unhide Kb_5) hBW3); have Kf2_6 := hide (keep_below (unhide Kf2_5) hBW3); have Ol_6 := hide ((unhide Ol_5).below hBW3); have Om_6 := hide ((unhide HOM).below hBW3); clear HX_5 Kd_5 Ka_5 Kf1_5 Kb_5 Kf2_5 Ol_5 HOM)
  obtain ⟨TC, eTC⟩ : ∃ X, w3.heap.size = X := ⟨_, rfl⟩
  rw [eTC] at k0_6 k1_6 hld_c hla_c hlf1_c hlb_c hlf2_c ⊢
  have Kc_6 := hide k0_6
  have Kf3_6 := hide k1_6
  clear eTC hBW3 k0_6 k1_6
  go_upto_region 6 with (go_at_call 9; refine (begun_any _).mono ?_; rintro e w4 ⟨rfl, hb4⟩; have HX_7 := hide (Below.next (unhide HX_6) hb4 (by first | exact Nat.le_refl _ | (have := unhide HBA; omega))); have Kd_7 := hide (keep_below (unhide Kd_6) hb4); have Ka_7 := hide (keep_below (unhide Ka_6) hb4); have Kf1_7 := hide (keep_below (unhide Kf1_6) hb4); have Kb_7 := hide (keep_below (unhide Kb_6) hb4); have Kf2_7 := hide (keep_below (unhide Kf2_6) hb4); have Kc_7 := hide (keep_below (unhide Kc_6) hb4); have Kf3_7 := hide (keep_below (unhide Kf3_6) hb4); have Ol_7 := hide ((unhide Ol_6).below hb4); have Om_7 := hide ((unhide Om_6).below hb4); clear HX_6 Kd_6 Ka_6 Kf1_6 Kb_6 Kf2_6 Kc_6 Kf3_6 Ol_6 Om_6; clear hb4)
  obtain ⟨⟨p0, p1, p2, p3, p4, p5, p6⟩, ⟨pf0, pf1, pf2, pf3, pf4, pf5, pf6⟩, pl⟩ := block7 (unhide Kd_7)
  go_upto_region 7 with (go_at_call 11; refine (unhide HWF _).mono ?_; rintro e w5 ⟨rfl, hb5⟩; have HX_8 := hide (Below.next (unhide HX_7) hb5 (by first | exact Nat.le_refl _ | (have := unhide HBA; omega))); have Kd_8 := hide (keep_below (unhide Kd_7) hb5); have Ka_8 := hide (keep_below (unhide Ka_7) hb5); have Kf1_8 := hide (keep_below (unhide Kf1_7) hb5); have Kb_8 := hide (keep_below (unhide Kb_7) hb5); have Kf2_8 := hide (keep_below (unhide Kf2_7) hb5); have Kc_8 := hide (keep_below (unhide Kc_7) hb5); have Kf3_8 := hide (keep_below (unhide Kf3_7) hb5); have Ol_8 := hide ((unhide Ol_7).below hb5); have Om_8 := hide ((unhide Om_7).below hb5); clear HX_7 Kd_7 Ka_7 Kf1_7 Kb_7 Kf2_7 Kc_7 Kf3_7 Ol_7 Om_7; clear hb5 HWF p0 p1 p2 p3 p4 p5 p6 pf0 pf1 pf2 pf3 pf4 pf5 pf6 pl)
  have HX_9 := hide ((unhide HX_8).alloc (Nat.le_trans (show w.heap.size ≤ w.heap.size from Nat.le_refl _) (unhide HX_8).size) (.cells #[.int .i64 0, .int .i64 0] 27))
  have Kd_9 := hide (keep_alloc (unhide Kd_8) (.cells #[.int .i64 0, .int .i64 0] 27))
  have Ka_9 := hide (keep_alloc (unhide Ka_8) (.cells #[.int .i64 0, .int .i64 0] 27))
  have Kf1_9 := hide (keep_alloc (unhide Kf1_8) (.cells #[.int .i64 0, .int .i64 0] 27))
  have Kb_9 := hide (keep_alloc (unhide Kb_8) (.cells #[.int .i64 0, .int .i64 0] 27))
  have Kf2_9 := hide (keep_alloc (unhide Kf2_8) (.cells #[.int .i64 0, .int .i64 0] 27))
  have Kc_9 := hide (keep_alloc (unhide Kc_8) (.cells #[.int .i64 0, .int .i64 0] 27))
  have Kf3_9 := hide (keep_alloc (unhide Kf3_8) (.cells #[.int .i64 0, .int .i64 0] 27))
  have Ol_9 := hide ((unhide Ol_8).below ((Below.refl _ _).alloc (Nat.le_refl _) (.cells #[.int .i64 0, .int .i64 0] 27)))
  have Om_9 := hide ((unhide Om_8).below ((Below.refl _ _).alloc (Nat.le_refl _) (.cells #[.int .i64 0, .int .i64 0] 27)))
  have Kw_9 := hide (new_block w5 (.cells #[.int .i64 0, .int .i64 0] 27))
  have hld_w : w.heap.size < w5.heap.size := size_of (unhide Kd_8)
  have hla_w : TA < w5.heap.size := size_of (unhide Ka_8)
  have hlf1_w : TA + 1 < w5.heap.size := size_of (unhide Kf1_8)
  have hlb_w : TB < w5.heap.size := size_of (unhide Kb_8)
  have hlf2_w : TB + 1 < w5.heap.size := size_of (unhide Kf2_8)
  have hlc_w : TC < w5.heap.size := size_of (unhide Kc_8)
  have hlf3_w : TC + 1 < w5.heap.size := size_of (unhide Kf3_8)
  obtain ⟨TW, eTW⟩ : ∃ X, w5.heap.size = X := ⟨_, rfl⟩
  obtain ⟨W5, eW5⟩ : ∃ X, w5.alloc (.cells #[.int .i64 0, .int .i64 0] 27) = X := ⟨_, rfl⟩
  rw [eTW, eW5] at Kw_9; rw [eW5] at HX_9 Kd_9 Ka_9 Kf1_9 Kb_9 Kf2_9 Kc_9 Kf3_9 Ol_9 Om_9; rw [eTW] at hld_w hla_w hlf1_w hlb_w hlf2_w hlc_w hlf3_w; rw [eTW, eW5]
  clear eTW eW5 HX_8 Kd_8 Ka_8 Kf1_8 Kb_8 Kf2_8 Kc_8 Kf3_8 Ol_8 Om_8
  obtain ⟨x0, x1, xf0, xf1, xl⟩ := block2 (unhide Kw_9)
  obtain ⟨⟨p0, p1, p2, p3, p4, p5, p6⟩, ⟨pf0, pf1, pf2, pf3, pf4, pf5, pf6⟩, pl⟩ := block7 (unhide Kd_9)
  obtain ⟨e0, e1, ef0, ef1, el⟩ := block2 (unhide Kf1_9)
  obtain ⟨⟨a0, a1, a2, a3, a4, a5, a6⟩, ⟨af0, af1, af2, af3, af4, af5, af6⟩, al⟩ := block7 (unhide Ka_9)
  go_upto_region 17 with fail
  clear x0 x1 xf0 xf1 xl p0 p1 p2 p3 p4 p5 p6 pf0 pf1 pf2 pf3 pf4 pf5 pf6 pl e0 e1 ef0 ef1 el a0 a1 a2 a3 a4 a5 a6 af0 af1 af2 af3 af4 af5 af6 al
  have HX_10 := hide ((unhide HX_9).alloc (Nat.le_trans (show w.heap.size ≤ w.heap.size from Nat.le_refl _) (unhide HX_9).size) (.cells #[.bool false, .bool r0, .bool r1, .int .i64 t0, .int .i64 t1, .int .i64 u0, .int .i64 u1] 25))
  have Kd_10 := hide (keep_alloc (unhide Kd_9) (.cells #[.bool false, .bool r0, .bool r1, .int .i64 t0, .int .i64 t1, .int .i64 u0, .int .i64 u1] 25))
  have Ka_10 := hide (keep_alloc (unhide Ka_9) (.cells #[.bool false, .bool r0, .bool r1, .int .i64 t0, .int .i64 t1, .int .i64 u0, .int .i64 u1] 25))
  have Kf1_10 := hide (keep_alloc (unhide Kf1_9) (.cells #[.bool false, .bool r0, .bool r1, .int .i64 t0, .int .i64 t1, .int .i64 u0, .int .i64 u1] 25))
  have Kb_10 := hide (keep_alloc (unhide Kb_9) (.cells #[.bool false, .bool r0, .bool r1, .int .i64 t0, .int .i64 t1, .int .i64 u0, .int .i64 u1] 25))
  have Kf2_10 := hide (keep_alloc (unhide Kf2_9) (.cells #[.bool false, .bool r0, .bool r1, .int .i64 t0, .int .i64 t1, .int .i64 u0, .int .i64 u1] 25))
  have Kc_10 := hide (keep_alloc (unhide Kc_9) (.cells #[.bool false, .bool r0, .bool r1, .int .i64 t0, .int .i64 t1, .int .i64 u0, .int .i64 u1] 25))
  have Kf3_10 := hide (keep_alloc (unhide Kf3_9) (.cells #[.bool false, .bool r0, .bool r1, .int .i64 t0, .int .i64 t1, .int .i64 u0, .int .i64 u1] 25))
  have Kw_10 := hide (keep_alloc (unhide Kw_9) (.cells #[.bool false, .bool r0, .bool r1, .int .i64 t0, .int .i64 t1, .int .i64 u0, .int .i64 u1] 25))
  have Ol_10 := hide ((unhide Ol_9).below ((Below.refl _ _).alloc (Nat.le_refl _) (.cells #[.bool false, .bool r0, .bool r1, .int .i64 t0, .int .i64 t1, .int .i64 u0, .int .i64 u1] 25)))
  have Om_10 := hide ((unhide Om_9).below ((Below.refl _ _).alloc (Nat.le_refl _) (.cells #[.bool false, .bool r0, .bool r1, .int .i64 t0, .int .i64 t1, .int .i64 u0, .int .i64 u1] 25)))
  have Kn_10 := hide (new_block W5 (.cells #[.bool false, .bool r0, .bool r1, .int .i64 t0, .int .i64 t1, .int .i64 u0, .int .i64 u1] 25))
  have hld_n : w.heap.size < W5.heap.size := size_of (unhide Kd_9)
  have hla_n : TA < W5.heap.size := size_of (unhide Ka_9)
  have hlf1_n : TA + 1 < W5.heap.size := size_of (unhide Kf1_9)
  have hlb_n : TB < W5.heap.size := size_of (unhide Kb_9)
  have hlf2_n : TB + 1 < W5.heap.size := size_of (unhide Kf2_9)
  have hlc_n : TC < W5.heap.size := size_of (unhide Kc_9)
  have hlf3_n : TC + 1 < W5.heap.size := size_of (unhide Kf3_9)
  have hlw_n : TW < W5.heap.size := size_of (unhide Kw_9)
  obtain ⟨TN, eTN⟩ : ∃ X, W5.heap.size = X := ⟨_, rfl⟩
  obtain ⟨W8, eW8⟩ : ∃ X, W5.alloc (.cells #[.bool false, .bool r0, .bool r1, .int .i64 t0, .int .i64 t1, .int .i64 u0, .int .i64 u1] 25) = X := ⟨_, rfl⟩
  rw [eTN, eW8] at Kn_10; rw [eW8] at HX_10 Kd_10 Ka_10 Kf1_10 Kb_10 Kf2_10 Kc_10 Kf3_10 Kw_10 Ol_10 Om_10; rw [eTN] at hld_n hla_n hlf1_n hlb_n hlf2_n hlc_n hlf3_n hlw_n; rw [eTN, eW8]
  clear eTN eW8 HX_9 Kd_9 Ka_9 Kf1_9 Kb_9 Kf2_9 Kc_9 Kf3_9 Kw_9 Ol_9 Om_9
  obtain ⟨⟨n0, n1, n2, n3, n4, n5, n6⟩, ⟨nf0, nf1, nf2, nf3, nf4, nf5, nf6⟩, nl⟩ := block7 (unhide Kn_10)
  go_upto_region 18 with fail
  clear n0 n1 n2 n3 n4 n5 n6 nf0 nf1 nf2 nf3 nf4 nf5 nf6 nl
  have HX_11 := hide (below_set (i := 5) (unhide HX_10) (show w.heap.size ≤ TN by first | omega | (have := unhide HBA; omega)) (.int .i64 whn))
  have Kd_11 := hide (keep_set (g := TN) (o := 5) (v := .int .i64 whn) (unhide Kd_10) (by omega))
  have Ka_11 := hide (keep_set (g := TN) (o := 5) (v := .int .i64 whn) (unhide Ka_10) (by omega))
  have Kf1_11 := hide (keep_set (g := TN) (o := 5) (v := .int .i64 whn) (unhide Kf1_10) (by omega))
  have Kb_11 := hide (keep_set (g := TN) (o := 5) (v := .int .i64 whn) (unhide Kb_10) (by omega))
  have Kf2_11 := hide (keep_set (g := TN) (o := 5) (v := .int .i64 whn) (unhide Kf2_10) (by omega))
  have Kc_11 := hide (keep_set (g := TN) (o := 5) (v := .int .i64 whn) (unhide Kc_10) (by omega))
  have Kf3_11 := hide (keep_set (g := TN) (o := 5) (v := .int .i64 whn) (unhide Kf3_10) (by omega))
  have Kw_11 := hide (keep_set (g := TN) (o := 5) (v := .int .i64 whn) (unhide Kw_10) (by omega))
  have Kn_11 := hide (set_block7 (i := 5) (y := .int .i64 whn) (unhide Kn_10))
  have Ol_11 := hide ((unhide Ol_10).keep (fun k hk => Below.heap_setCell W8 ⟨TN, 5, none⟩ (.int .i64 whn) k (by have := Own.ne (unhide Ol_10) (unhide Kn_10) (by decide) k hk; simpa using this)))
  have Om_11 := hide ((unhide Om_10).keep (fun k hk => Below.heap_setCell W8 ⟨TN, 5, none⟩ (.int .i64 whn) k (by have := Own.ne (unhide Om_10) (unhide Kn_10) (by decide) k hk; simpa using this)))
  obtain ⟨W9, eW9⟩ : ∃ X, W8.setCell ⟨TN, 5, none⟩ (.int .i64 whn) = X := ⟨_, rfl⟩
  rw [eW9] at HX_11 Kd_11 Ka_11 Kf1_11 Kb_11 Kf2_11 Kc_11 Kf3_11 Kw_11 Kn_11 Ol_11 Om_11 ⊢
  clear eW9 HX_10 Kd_10 Ka_10 Kf1_10 Kb_10 Kf2_10 Kc_10 Kf3_10 Kw_10 Kn_10 Ol_10 Om_10
  simp only [List.setIfInBounds_toArray, List.set_cons_zero, List.set_cons_succ] at Kn_11
  obtain ⟨⟨n0, n1, n2, n3, n4, n5, n6⟩, ⟨nf0, nf1, nf2, nf3, nf4, nf5, nf6⟩, nl⟩ := block7 (unhide Kn_11)
  obtain ⟨⟨p0, p1, p2, p3, p4, p5, p6⟩, ⟨pf0, pf1, pf2, pf3, pf4, pf5, pf6⟩, pl⟩ := block7 (unhide Kd_11)
  go_upto_region 22 with (go_at_call 13; refine (unhide HIL _).mono ?_; rintro e w9 ⟨rfl, hb9⟩; have HX_12 := hide (Below.next (unhide HX_11) hb9 (by first | exact Nat.le_refl _ | (have := unhide HBA; omega))); have Kd_12 := hide (keep_below (unhide Kd_11) hb9); have Ka_12 := hide (keep_below (unhide Ka_11) hb9); have Kf1_12 := hide (keep_below (unhide Kf1_11) hb9); have Kb_12 := hide (keep_below (unhide Kb_11) hb9); have Kf2_12 := hide (keep_below (unhide Kf2_11) hb9); have Kc_12 := hide (keep_below (unhide Kc_11) hb9); have Kf3_12 := hide (keep_below (unhide Kf3_11) hb9); have Kw_12 := hide (keep_below (unhide Kw_11) hb9); have Kn_12 := hide (keep_below (unhide Kn_11) hb9); have Ol_12 := hide ((unhide Ol_11).below hb9); have Om_12 := hide ((unhide Om_11).below hb9); clear HX_11 Kd_11 Ka_11 Kf1_11 Kb_11 Kf2_11 Kc_11 Kf3_11 Kw_11 Kn_11 Ol_11 Om_11; clear hb9 HIL n0 n1 n2 n3 n4 n5 n6 nf0 nf1 nf2 nf3 nf4 nf5 nf6 nl p0 p1 p2 p3 p4 p5 p6 pf0 pf1 pf2 pf3 pf4 pf5 pf6 pl; obtain ⟨⟨n0, n1, n2, n3, n4, n5, n6⟩, ⟨nf0, nf1, nf2, nf3, nf4, nf5, nf6⟩, nl⟩ := block7 (unhide Kn_12); obtain ⟨⟨p0, p1, p2, p3, p4, p5, p6⟩, ⟨pf0, pf1, pf2, pf3, pf4, pf5, pf6⟩, pl⟩ := block7 (unhide Kd_12))
  clear n0 n1 n2 n3 n4 n5 n6 nf0 nf1 nf2 nf3 nf4 nf5 nf6 nl p0 p1 p2 p3 p4 p5 p6 pf0 pf1 pf2 pf3 pf4 pf5 pf6 pl
  obtain ⟨⟨n0, n1, n2, n3, n4, n5, n6⟩, ⟨nf0, nf1, nf2, nf3, nf4, nf5, nf6⟩, nl⟩ := block7 (unhide Kn_12)
  obtain ⟨⟨a0, a1, a2, a3, a4, a5, a6⟩, ⟨af0, af1, af2, af3, af4, af5, af6⟩, al⟩ := block7 (unhide Ka_12)
  go_upto_region 24 with fail
  clear n0 n1 n2 n3 n4 n5 n6 nf0 nf1 nf2 nf3 nf4 nf5 nf6 nl a0 a1 a2 a3 a4 a5 a6 af0 af1 af2 af3 af4 af5 af6 al
  exact times_tail w false r0 r1 t0 t1 u0 u1 now 0 0 b0 b1 b2 b3 b4 b5 b6 L G0 G1 c0 M p n m la lk ma mk TB TC TW _ _ (unhide HC0) (unhide HR1) (unhide HR2) (unhide HN) (unhide HM) _ (unhide HX_12) (unhide Kd_12) (unhide Kb_12) (unhide Kf2_12) (unhide Kc_12) (unhide Kf3_12) (unhide Kw_12) (unhide Ol_12) (unhide Om_12) ⟨by omega, by omega, by omega⟩ _ _ _ (by assumption) (by kernel_rfl)

set_option maxRecDepth 100000 in
set_option maxHeartbeats 4000000 in
theorem times0_late (w : World) (r0 r1 : Bool) (t0 t1 u0 u1 whn now : Int) (b0 b1 b2 : Bool) (b3 b4 b5 b6 : Int) (L : List Int) (G0 G1 : Int) (c0 : Bool) (M : List Int) (p : Bool) (hC : descF false r0 r1 t0 t1 u0 u1 = (0, 0)) (h1 : ¬ whn < 0) (h2 : ¬ 1000000000 < whn) (h3 : ¬ now < 0) (h4 : ¬ 1000000000 < now) (h5 : late whn now = true) (hR1 : tickR false r0 r1 t0 t1 u0 u1 now (0, 0) = ((b0, b1, b2, b3, b4, b5, b6), L, (G0, G1))) (hR2 : closeR false t0 t1 (0, 0) = (c0, M, p)) :
    Calls Try.prog 4 #[.agg #[.bool false, .bool r0, .bool r1, .int .i64 t0, .int .i64 t1, .int .i64 u0, .int .i64 u1], .int .i64 0, .int .i64 whn, .int .i64 now] w fun e w' => e = .returned (.bool true) ∧ Below w.heap.size w w' := by
  have HUN : Hid (∀ W, Calls Try.prog 14 #[.agg #[.bool false, .bool r0, .bool r1, .int .i64 t0, .int .i64 t1, .int .i64 u0, .int .i64 u1], .int .i64 0, .int .i64 whn, .int .i64 now] W fun e w' => e = .returned (.tuple #[.agg #[.bool false, .bool r0, .bool r1, .int .i64 0, .int .i64 t1, .int .i64 whn, .int .i64 u1], .int .i64 t0, .agg #[.int .i64 0, .int .i64 0]]) ∧ Below W.heap.size W w') := fun W => until0_late W false r0 r1 t0 t1 u0 u1 whn now 0 0 0 hC (show untilF (onF (0, 0) 0) false whn now = (0, 0) by rw [show onF (0, 0) 0 = (0, 0) from by decide]; unfold untilF; rw [if_neg (by simp), if_neg (by omega), if_neg (by decide)]) h5
  have HTK : Hid (∀ W, Calls Try.prog 15 #[.agg #[.bool false, .bool r0, .bool r1, .int .i64 t0, .int .i64 t1, .int .i64 u0, .int .i64 u1], .int .i64 now] W fun e w' => ∃ a k, e = .returned (.tuple #[.agg #[.bool b0, .bool b1, .bool b2, .int .i64 b3, .int .i64 b4, .int .i64 b5, .int .i64 b6], .slice a L.length k, .agg #[.int .i64 G0, .int .i64 G1]]) ∧ Own KI W.heap.size w' (.slice a L.length k) L ∧ Below W.heap.size W w') := fun W => tick_all W false r0 r1 t0 t1 u0 u1 now 0 0 hC b0 b1 b2 b3 b4 b5 b6 L G0 G1 hR1
  have HCL : Hid (∀ W, Calls Try.prog 16 #[.agg #[.bool false, .bool r0, .bool r1, .int .i64 t0, .int .i64 t1, .int .i64 u0, .int .i64 u1]] W fun e w' => ∃ a k, e = .returned (.tuple #[.agg #[.bool c0, .bool false, .bool false, .int .i64 0, .int .i64 0, .int .i64 0, .int .i64 0], .slice a M.length k, .bool p, .agg #[.int .i64 0, .int .i64 0]]) ∧ Own KI W.heap.size w' (.slice a M.length k) M ∧ Below W.heap.size W w') := fun W => close_all W false r0 r1 t0 t1 u0 u1 0 0 hC c0 M p hR2
  have HWF : Hid (∀ W, Calls Try.prog 11 #[.agg #[.bool false, .bool r0, .bool r1, .int .i64 t0, .int .i64 t1, .int .i64 u0, .int .i64 u1], .int .i64 0] W fun e w' => e = .returned (.agg #[.int .i64 0, .int .i64 0]) ∧ Below W.heap.size W w') := fun W => wayFault_any W false r0 r1 t0 t1 u0 u1 0 0 0 0 0 hC (show onF (0, 0) 0 = (0, 0) by decide)
  have HIL : Hid (∀ W, Calls Try.prog 13 #[.agg #[.bool false, .bool r0, .bool r1, .int .i64 t0, .int .i64 t1, .int .i64 whn, .int .i64 u1], .int .i64 0, .int .i64 now] W fun e w' => e = .returned (.bool (late whn now)) ∧ Below W.heap.size W w') := fun W => isLate0_any W false r0 r1 t0 t1 whn u1 now
  rw [h5] at HIL
  clear h5
  obtain ⟨n, en⟩ : ∃ n, L.length = n := ⟨_, rfl⟩
  obtain ⟨m, em⟩ : ∃ m, M.length = m := ⟨_, rfl⟩
  rw [en] at HTK; rw [em] at HCL
  have HN := hide en; have HM := hide em; have HR1 := hide hR1; have HR2 := hide hR2; have HC0 := hide hC
  clear en em hR1 hR2 hC
  have xi := arr_i; have xb := arr_b
  have xbb : ∀ b : Bool, (b == b) = true := fun b => by cases b <;> rfl
  have xii : ∀ b : Int, (b == b) = true := fun b => by simp
  obtain ⟨W0, e0, hB, k0⟩ := one_new w (.cells #[.bool false, .bool r0, .bool r1, .int .i64 t0, .int .i64 t1, .int .i64 u0, .int .i64 u1] 25)
  have HX := hide hB; have HE := hide e0; have HD := hide k0
  clear hB e0 k0
  go_enter Try.func4, Try.ntmps4
  go_upto_region 1 with fail
  rw [unhide HE]
  clear HE
  obtain ⟨⟨p0, p1, p2, p3, p4, p5, p6⟩, ⟨pf0, pf1, pf2, pf3, pf4, pf5, pf6⟩, pl⟩ := block7 (unhide HD)
  go_upto_region 2 with (go_at_call 14; refine (unhide HUN _).mono ?_; rintro e w1 ⟨rfl, hb1⟩; have HX_1 := hide (Below.next (unhide HX) hb1 (by first | exact Nat.le_refl _ | (have := unhide HBA; omega))); have Kd_1 := hide (keep_below (unhide HD) hb1); clear HX HD; clear hb1 HUN p0 p1 p2 p3 p4 p5 p6 pf0 pf1 pf2 pf3 pf4 pf5 pf6 pl)
  obtain ⟨W1, eW1, hBW1, k0_2, k1_2⟩ := two_new w1 (.cells #[.bool false, .bool r0, .bool r1, .int .i64 0, .int .i64 t1, .int .i64 whn, .int .i64 u1] 25) (.cells #[.int .i64 0, .int .i64 0] 27)
  rw [eW1]
  clear eW1
  have hld_a : w.heap.size < w1.heap.size := size_of (unhide Kd_1)
  (have HX_2 := hide (Below.next (unhide HX_1) hBW1 (by first | exact Nat.le_refl _ | (have := unhide HBA; omega))); have Kd_2 := hide (keep_below (unhide Kd_1) hBW1); clear HX_1 Kd_1)
  obtain ⟨TA, eTA⟩ : ∃ X, w1.heap.size = X := ⟨_, rfl⟩
  rw [eTA] at k0_2 k1_2 hld_a ⊢
  have Ka_2 := hide k0_2
  have Kf1_2 := hide k1_2
  clear eTA hBW1 k0_2 k1_2
  obtain ⟨⟨p0, p1, p2, p3, p4, p5, p6⟩, ⟨pf0, pf1, pf2, pf3, pf4, pf5, pf6⟩, pl⟩ := block7 (unhide Kd_2)
  go_upto_region 3 with (go_at_call 15; refine (unhide HTK _).mono ?_; rintro e w2 ⟨la, lk, rfl, hol, hb2⟩; have HOL := hide (hol.base (unhide HX_2).size); have HX_3 := hide (Below.next (unhide HX_2) hb2 (by first | exact Nat.le_refl _ | (have := unhide HBA; omega))); have Kd_3 := hide (keep_below (unhide Kd_2) hb2); have Ka_3 := hide (keep_below (unhide Ka_2) hb2); have Kf1_3 := hide (keep_below (unhide Kf1_2) hb2); clear HX_2 Kd_2 Ka_2 Kf1_2; clear hb2 hol HTK p0 p1 p2 p3 p4 p5 p6 pf0 pf1 pf2 pf3 pf4 pf5 pf6 pl)
  obtain ⟨W2, eW2, hBW2, k0_4, k1_4⟩ := two_new w2 (.cells #[.bool b0, .bool b1, .bool b2, .int .i64 b3, .int .i64 b4, .int .i64 b5, .int .i64 b6] 25) (.cells #[.int .i64 G0, .int .i64 G1] 27)
  rw [eW2]
  clear eW2
  have hld_b : w.heap.size < w2.heap.size := size_of (unhide Kd_3)
  have hla_b : TA < w2.heap.size := size_of (unhide Ka_3)
  have hlf1_b : TA + 1 < w2.heap.size := size_of (unhide Kf1_3)
  (have HX_4 := hide (Below.next (unhide HX_3) hBW2 (by first | exact Nat.le_refl _ | (have := unhide HBA; omega))); have Kd_4 := hide (keep_below (unhide Kd_3) hBW2); have Ka_4 := hide (keep_below (unhide Ka_3) hBW2); have Kf1_4 := hide (keep_below (unhide Kf1_3) hBW2); have Ol_4 := hide ((unhide HOL).below hBW2); clear HX_3 Kd_3 Ka_3 Kf1_3 HOL)
  obtain ⟨TB, eTB⟩ : ∃ X, w2.heap.size = X := ⟨_, rfl⟩
  rw [eTB] at k0_4 k1_4 hld_b hla_b hlf1_b ⊢
  have Kb_4 := hide k0_4
  have Kf2_4 := hide k1_4
  clear eTB hBW2 k0_4 k1_4
  obtain ⟨⟨p0, p1, p2, p3, p4, p5, p6⟩, ⟨pf0, pf1, pf2, pf3, pf4, pf5, pf6⟩, pl⟩ := block7 (unhide Kd_4)
  go_upto_region 4 with (go_at_call 16; refine (unhide HCL _).mono ?_; rintro e w3 ⟨ma, mk, rfl, hom, hb3⟩; have HOM := hide (hom.base (unhide HX_4).size); have HX_5 := hide (Below.next (unhide HX_4) hb3 (by first | exact Nat.le_refl _ | (have := unhide HBA; omega))); have Kd_5 := hide (keep_below (unhide Kd_4) hb3); have Ka_5 := hide (keep_below (unhide Ka_4) hb3); have Kf1_5 := hide (keep_below (unhide Kf1_4) hb3); have Kb_5 := hide (keep_below (unhide Kb_4) hb3); have Kf2_5 := hide (keep_below (unhide Kf2_4) hb3); have Ol_5 := hide ((unhide Ol_4).below hb3); clear HX_4 Kd_4 Ka_4 Kf1_4 Kb_4 Kf2_4 Ol_4; clear hb3 hom HCL p0 p1 p2 p3 p4 p5 p6 pf0 pf1 pf2 pf3 pf4 pf5 pf6 pl)
  obtain ⟨W3, eW3, hBW3, k0_6, k1_6⟩ := two_new w3 (.cells #[.bool c0, .bool false, .bool false, .int .i64 0, .int .i64 0, .int .i64 0, .int .i64 0] 25) (.cells #[.int .i64 0, .int .i64 0] 27)
  rw [eW3]
  clear eW3
  have hld_c : w.heap.size < w3.heap.size := size_of (unhide Kd_5)
  have hla_c : TA < w3.heap.size := size_of (unhide Ka_5)
  have hlf1_c : TA + 1 < w3.heap.size := size_of (unhide Kf1_5)
  have hlb_c : TB < w3.heap.size := size_of (unhide Kb_5)
  have hlf2_c : TB + 1 < w3.heap.size := size_of (unhide Kf2_5)
  (have HX_6 := hide (Below.next (unhide HX_5) hBW3 (by first | exact Nat.le_refl _ | (have := unhide HBA; omega))); have Kd_6 := hide (keep_below (unhide Kd_5) hBW3); have Ka_6 := hide (keep_below (unhide Ka_5) hBW3); have Kf1_6 := hide (keep_below (unhide Kf1_5) hBW3); have Kb_6 := hide (keep_below (unhide Kb_5) hBW3); have Kf2_6 := hide (keep_below (unhide Kf2_5) hBW3); have Ol_6 := hide ((unhide Ol_5).below hBW3); have Om_6 := hide ((unhide HOM).below hBW3); clear HX_5 Kd_5 Ka_5 Kf1_5 Kb_5 Kf2_5 Ol_5 HOM)
  obtain ⟨TC, eTC⟩ : ∃ X, w3.heap.size = X := ⟨_, rfl⟩
  rw [eTC] at k0_6 k1_6 hld_c hla_c hlf1_c hlb_c hlf2_c ⊢
  have Kc_6 := hide k0_6
  have Kf3_6 := hide k1_6
  clear eTC hBW3 k0_6 k1_6
  go_upto_region 6 with (go_at_call 9; refine (begun_any _).mono ?_; rintro e w4 ⟨rfl, hb4⟩; have HX_7 := hide (Below.next (unhide HX_6) hb4 (by first | exact Nat.le_refl _ | (have := unhide HBA; omega))); have Kd_7 := hide (keep_below (unhide Kd_6) hb4); have Ka_7 := hide (keep_below (unhide Ka_6) hb4); have Kf1_7 := hide (keep_below (unhide Kf1_6) hb4); have Kb_7 := hide (keep_below (unhide Kb_6) hb4); have Kf2_7 := hide (keep_below (unhide Kf2_6) hb4); have Kc_7 := hide (keep_below (unhide Kc_6) hb4); have Kf3_7 := hide (keep_below (unhide Kf3_6) hb4); have Ol_7 := hide ((unhide Ol_6).below hb4); have Om_7 := hide ((unhide Om_6).below hb4); clear HX_6 Kd_6 Ka_6 Kf1_6 Kb_6 Kf2_6 Kc_6 Kf3_6 Ol_6 Om_6; clear hb4)
  obtain ⟨⟨p0, p1, p2, p3, p4, p5, p6⟩, ⟨pf0, pf1, pf2, pf3, pf4, pf5, pf6⟩, pl⟩ := block7 (unhide Kd_7)
  go_upto_region 7 with (go_at_call 11; refine (unhide HWF _).mono ?_; rintro e w5 ⟨rfl, hb5⟩; have HX_8 := hide (Below.next (unhide HX_7) hb5 (by first | exact Nat.le_refl _ | (have := unhide HBA; omega))); have Kd_8 := hide (keep_below (unhide Kd_7) hb5); have Ka_8 := hide (keep_below (unhide Ka_7) hb5); have Kf1_8 := hide (keep_below (unhide Kf1_7) hb5); have Kb_8 := hide (keep_below (unhide Kb_7) hb5); have Kf2_8 := hide (keep_below (unhide Kf2_7) hb5); have Kc_8 := hide (keep_below (unhide Kc_7) hb5); have Kf3_8 := hide (keep_below (unhide Kf3_7) hb5); have Ol_8 := hide ((unhide Ol_7).below hb5); have Om_8 := hide ((unhide Om_7).below hb5); clear HX_7 Kd_7 Ka_7 Kf1_7 Kb_7 Kf2_7 Kc_7 Kf3_7 Ol_7 Om_7; clear hb5 HWF p0 p1 p2 p3 p4 p5 p6 pf0 pf1 pf2 pf3 pf4 pf5 pf6 pl)
  have HX_9 := hide ((unhide HX_8).alloc (Nat.le_trans (show w.heap.size ≤ w.heap.size from Nat.le_refl _) (unhide HX_8).size) (.cells #[.int .i64 0, .int .i64 0] 27))
  have Kd_9 := hide (keep_alloc (unhide Kd_8) (.cells #[.int .i64 0, .int .i64 0] 27))
  have Ka_9 := hide (keep_alloc (unhide Ka_8) (.cells #[.int .i64 0, .int .i64 0] 27))
  have Kf1_9 := hide (keep_alloc (unhide Kf1_8) (.cells #[.int .i64 0, .int .i64 0] 27))
  have Kb_9 := hide (keep_alloc (unhide Kb_8) (.cells #[.int .i64 0, .int .i64 0] 27))
  have Kf2_9 := hide (keep_alloc (unhide Kf2_8) (.cells #[.int .i64 0, .int .i64 0] 27))
  have Kc_9 := hide (keep_alloc (unhide Kc_8) (.cells #[.int .i64 0, .int .i64 0] 27))
  have Kf3_9 := hide (keep_alloc (unhide Kf3_8) (.cells #[.int .i64 0, .int .i64 0] 27))
  have Ol_9 := hide ((unhide Ol_8).below ((Below.refl _ _).alloc (Nat.le_refl _) (.cells #[.int .i64 0, .int .i64 0] 27)))
  have Om_9 := hide ((unhide Om_8).below ((Below.refl _ _).alloc (Nat.le_refl _) (.cells #[.int .i64 0, .int .i64 0] 27)))
  have Kw_9 := hide (new_block w5 (.cells #[.int .i64 0, .int .i64 0] 27))
  have hld_w : w.heap.size < w5.heap.size := size_of (unhide Kd_8)
  have hla_w : TA < w5.heap.size := size_of (unhide Ka_8)
  have hlf1_w : TA + 1 < w5.heap.size := size_of (unhide Kf1_8)
  have hlb_w : TB < w5.heap.size := size_of (unhide Kb_8)
  have hlf2_w : TB + 1 < w5.heap.size := size_of (unhide Kf2_8)
  have hlc_w : TC < w5.heap.size := size_of (unhide Kc_8)
  have hlf3_w : TC + 1 < w5.heap.size := size_of (unhide Kf3_8)
  obtain ⟨TW, eTW⟩ : ∃ X, w5.heap.size = X := ⟨_, rfl⟩
  obtain ⟨W5, eW5⟩ : ∃ X, w5.alloc (.cells #[.int .i64 0, .int .i64 0] 27) = X := ⟨_, rfl⟩
  rw [eTW, eW5] at Kw_9; rw [eW5] at HX_9 Kd_9 Ka_9 Kf1_9 Kb_9 Kf2_9 Kc_9 Kf3_9 Ol_9 Om_9; rw [eTW] at hld_w hla_w hlf1_w hlb_w hlf2_w hlc_w hlf3_w; rw [eTW, eW5]
  clear eTW eW5 HX_8 Kd_8 Ka_8 Kf1_8 Kb_8 Kf2_8 Kc_8 Kf3_8 Ol_8 Om_8
  obtain ⟨x0, x1, xf0, xf1, xl⟩ := block2 (unhide Kw_9)
  obtain ⟨⟨p0, p1, p2, p3, p4, p5, p6⟩, ⟨pf0, pf1, pf2, pf3, pf4, pf5, pf6⟩, pl⟩ := block7 (unhide Kd_9)
  obtain ⟨e0, e1, ef0, ef1, el⟩ := block2 (unhide Kf1_9)
  obtain ⟨⟨a0, a1, a2, a3, a4, a5, a6⟩, ⟨af0, af1, af2, af3, af4, af5, af6⟩, al⟩ := block7 (unhide Ka_9)
  go_upto_region 17 with fail
  clear x0 x1 xf0 xf1 xl p0 p1 p2 p3 p4 p5 p6 pf0 pf1 pf2 pf3 pf4 pf5 pf6 pl e0 e1 ef0 ef1 el a0 a1 a2 a3 a4 a5 a6 af0 af1 af2 af3 af4 af5 af6 al
  have HX_10 := hide ((unhide HX_9).alloc (Nat.le_trans (show w.heap.size ≤ w.heap.size from Nat.le_refl _) (unhide HX_9).size) (.cells #[.bool false, .bool r0, .bool r1, .int .i64 t0, .int .i64 t1, .int .i64 u0, .int .i64 u1] 25))
  have Kd_10 := hide (keep_alloc (unhide Kd_9) (.cells #[.bool false, .bool r0, .bool r1, .int .i64 t0, .int .i64 t1, .int .i64 u0, .int .i64 u1] 25))
  have Ka_10 := hide (keep_alloc (unhide Ka_9) (.cells #[.bool false, .bool r0, .bool r1, .int .i64 t0, .int .i64 t1, .int .i64 u0, .int .i64 u1] 25))
  have Kf1_10 := hide (keep_alloc (unhide Kf1_9) (.cells #[.bool false, .bool r0, .bool r1, .int .i64 t0, .int .i64 t1, .int .i64 u0, .int .i64 u1] 25))
  have Kb_10 := hide (keep_alloc (unhide Kb_9) (.cells #[.bool false, .bool r0, .bool r1, .int .i64 t0, .int .i64 t1, .int .i64 u0, .int .i64 u1] 25))
  have Kf2_10 := hide (keep_alloc (unhide Kf2_9) (.cells #[.bool false, .bool r0, .bool r1, .int .i64 t0, .int .i64 t1, .int .i64 u0, .int .i64 u1] 25))
  have Kc_10 := hide (keep_alloc (unhide Kc_9) (.cells #[.bool false, .bool r0, .bool r1, .int .i64 t0, .int .i64 t1, .int .i64 u0, .int .i64 u1] 25))
  have Kf3_10 := hide (keep_alloc (unhide Kf3_9) (.cells #[.bool false, .bool r0, .bool r1, .int .i64 t0, .int .i64 t1, .int .i64 u0, .int .i64 u1] 25))
  have Kw_10 := hide (keep_alloc (unhide Kw_9) (.cells #[.bool false, .bool r0, .bool r1, .int .i64 t0, .int .i64 t1, .int .i64 u0, .int .i64 u1] 25))
  have Ol_10 := hide ((unhide Ol_9).below ((Below.refl _ _).alloc (Nat.le_refl _) (.cells #[.bool false, .bool r0, .bool r1, .int .i64 t0, .int .i64 t1, .int .i64 u0, .int .i64 u1] 25)))
  have Om_10 := hide ((unhide Om_9).below ((Below.refl _ _).alloc (Nat.le_refl _) (.cells #[.bool false, .bool r0, .bool r1, .int .i64 t0, .int .i64 t1, .int .i64 u0, .int .i64 u1] 25)))
  have Kn_10 := hide (new_block W5 (.cells #[.bool false, .bool r0, .bool r1, .int .i64 t0, .int .i64 t1, .int .i64 u0, .int .i64 u1] 25))
  have hld_n : w.heap.size < W5.heap.size := size_of (unhide Kd_9)
  have hla_n : TA < W5.heap.size := size_of (unhide Ka_9)
  have hlf1_n : TA + 1 < W5.heap.size := size_of (unhide Kf1_9)
  have hlb_n : TB < W5.heap.size := size_of (unhide Kb_9)
  have hlf2_n : TB + 1 < W5.heap.size := size_of (unhide Kf2_9)
  have hlc_n : TC < W5.heap.size := size_of (unhide Kc_9)
  have hlf3_n : TC + 1 < W5.heap.size := size_of (unhide Kf3_9)
  have hlw_n : TW < W5.heap.size := size_of (unhide Kw_9)
  obtain ⟨TN, eTN⟩ : ∃ X, W5.heap.size = X := ⟨_, rfl⟩
  obtain ⟨W8, eW8⟩ : ∃ X, W5.alloc (.cells #[.bool false, .bool r0, .bool r1, .int .i64 t0, .int .i64 t1, .int .i64 u0, .int .i64 u1] 25) = X := ⟨_, rfl⟩
  rw [eTN, eW8] at Kn_10; rw [eW8] at HX_10 Kd_10 Ka_10 Kf1_10 Kb_10 Kf2_10 Kc_10 Kf3_10 Kw_10 Ol_10 Om_10; rw [eTN] at hld_n hla_n hlf1_n hlb_n hlf2_n hlc_n hlf3_n hlw_n; rw [eTN, eW8]
  clear eTN eW8 HX_9 Kd_9 Ka_9 Kf1_9 Kb_9 Kf2_9 Kc_9 Kf3_9 Kw_9 Ol_9 Om_9
  obtain ⟨⟨n0, n1, n2, n3, n4, n5, n6⟩, ⟨nf0, nf1, nf2, nf3, nf4, nf5, nf6⟩, nl⟩ := block7 (unhide Kn_10)
  go_upto_region 18 with fail
  clear n0 n1 n2 n3 n4 n5 n6 nf0 nf1 nf2 nf3 nf4 nf5 nf6 nl
  have HX_11 := hide (below_set (i := 5) (unhide HX_10) (show w.heap.size ≤ TN by first | omega | (have := unhide HBA; omega)) (.int .i64 whn))
  have Kd_11 := hide (keep_set (g := TN) (o := 5) (v := .int .i64 whn) (unhide Kd_10) (by omega))
  have Ka_11 := hide (keep_set (g := TN) (o := 5) (v := .int .i64 whn) (unhide Ka_10) (by omega))
  have Kf1_11 := hide (keep_set (g := TN) (o := 5) (v := .int .i64 whn) (unhide Kf1_10) (by omega))
  have Kb_11 := hide (keep_set (g := TN) (o := 5) (v := .int .i64 whn) (unhide Kb_10) (by omega))
  have Kf2_11 := hide (keep_set (g := TN) (o := 5) (v := .int .i64 whn) (unhide Kf2_10) (by omega))
  have Kc_11 := hide (keep_set (g := TN) (o := 5) (v := .int .i64 whn) (unhide Kc_10) (by omega))
  have Kf3_11 := hide (keep_set (g := TN) (o := 5) (v := .int .i64 whn) (unhide Kf3_10) (by omega))
  have Kw_11 := hide (keep_set (g := TN) (o := 5) (v := .int .i64 whn) (unhide Kw_10) (by omega))
  have Kn_11 := hide (set_block7 (i := 5) (y := .int .i64 whn) (unhide Kn_10))
  have Ol_11 := hide ((unhide Ol_10).keep (fun k hk => Below.heap_setCell W8 ⟨TN, 5, none⟩ (.int .i64 whn) k (by have := Own.ne (unhide Ol_10) (unhide Kn_10) (by decide) k hk; simpa using this)))
  have Om_11 := hide ((unhide Om_10).keep (fun k hk => Below.heap_setCell W8 ⟨TN, 5, none⟩ (.int .i64 whn) k (by have := Own.ne (unhide Om_10) (unhide Kn_10) (by decide) k hk; simpa using this)))
  obtain ⟨W9, eW9⟩ : ∃ X, W8.setCell ⟨TN, 5, none⟩ (.int .i64 whn) = X := ⟨_, rfl⟩
  rw [eW9] at HX_11 Kd_11 Ka_11 Kf1_11 Kb_11 Kf2_11 Kc_11 Kf3_11 Kw_11 Kn_11 Ol_11 Om_11 ⊢
  clear eW9 HX_10 Kd_10 Ka_10 Kf1_10 Kb_10 Kf2_10 Kc_10 Kf3_10 Kw_10 Kn_10 Ol_10 Om_10
  simp only [List.setIfInBounds_toArray, List.set_cons_zero, List.set_cons_succ] at Kn_11
  obtain ⟨⟨n0, n1, n2, n3, n4, n5, n6⟩, ⟨nf0, nf1, nf2, nf3, nf4, nf5, nf6⟩, nl⟩ := block7 (unhide Kn_11)
  obtain ⟨⟨p0, p1, p2, p3, p4, p5, p6⟩, ⟨pf0, pf1, pf2, pf3, pf4, pf5, pf6⟩, pl⟩ := block7 (unhide Kd_11)
  go_upto_region 22 with (go_at_call 13; refine (unhide HIL _).mono ?_; rintro e w9 ⟨rfl, hb9⟩; have HX_12 := hide (Below.next (unhide HX_11) hb9 (by first | exact Nat.le_refl _ | (have := unhide HBA; omega))); have Kd_12 := hide (keep_below (unhide Kd_11) hb9); have Ka_12 := hide (keep_below (unhide Ka_11) hb9); have Kf1_12 := hide (keep_below (unhide Kf1_11) hb9); have Kb_12 := hide (keep_below (unhide Kb_11) hb9); have Kf2_12 := hide (keep_below (unhide Kf2_11) hb9); have Kc_12 := hide (keep_below (unhide Kc_11) hb9); have Kf3_12 := hide (keep_below (unhide Kf3_11) hb9); have Kw_12 := hide (keep_below (unhide Kw_11) hb9); have Kn_12 := hide (keep_below (unhide Kn_11) hb9); have Ol_12 := hide ((unhide Ol_11).below hb9); have Om_12 := hide ((unhide Om_11).below hb9); clear HX_11 Kd_11 Ka_11 Kf1_11 Kb_11 Kf2_11 Kc_11 Kf3_11 Kw_11 Kn_11 Ol_11 Om_11; clear hb9 HIL n0 n1 n2 n3 n4 n5 n6 nf0 nf1 nf2 nf3 nf4 nf5 nf6 nl p0 p1 p2 p3 p4 p5 p6 pf0 pf1 pf2 pf3 pf4 pf5 pf6 pl; obtain ⟨⟨n0, n1, n2, n3, n4, n5, n6⟩, ⟨nf0, nf1, nf2, nf3, nf4, nf5, nf6⟩, nl⟩ := block7 (unhide Kn_12); obtain ⟨⟨p0, p1, p2, p3, p4, p5, p6⟩, ⟨pf0, pf1, pf2, pf3, pf4, pf5, pf6⟩, pl⟩ := block7 (unhide Kd_12))
  clear n0 n1 n2 n3 n4 n5 n6 nf0 nf1 nf2 nf3 nf4 nf5 nf6 nl p0 p1 p2 p3 p4 p5 p6 pf0 pf1 pf2 pf3 pf4 pf5 pf6 pl
  have HX_13 := hide (below_set (i := 3) (unhide HX_12) (show w.heap.size ≤ TN by first | omega | (have := unhide HBA; omega)) (.int .i64 0))
  have Kd_13 := hide (keep_set (g := TN) (o := 3) (v := .int .i64 0) (unhide Kd_12) (by omega))
  have Ka_13 := hide (keep_set (g := TN) (o := 3) (v := .int .i64 0) (unhide Ka_12) (by omega))
  have Kf1_13 := hide (keep_set (g := TN) (o := 3) (v := .int .i64 0) (unhide Kf1_12) (by omega))
  have Kb_13 := hide (keep_set (g := TN) (o := 3) (v := .int .i64 0) (unhide Kb_12) (by omega))
  have Kf2_13 := hide (keep_set (g := TN) (o := 3) (v := .int .i64 0) (unhide Kf2_12) (by omega))
  have Kc_13 := hide (keep_set (g := TN) (o := 3) (v := .int .i64 0) (unhide Kc_12) (by omega))
  have Kf3_13 := hide (keep_set (g := TN) (o := 3) (v := .int .i64 0) (unhide Kf3_12) (by omega))
  have Kw_13 := hide (keep_set (g := TN) (o := 3) (v := .int .i64 0) (unhide Kw_12) (by omega))
  have Kn_13 := hide (set_block7 (i := 3) (y := .int .i64 0) (unhide Kn_12))
  have Ol_13 := hide ((unhide Ol_12).keep (fun k hk => Below.heap_setCell w9 ⟨TN, 3, none⟩ (.int .i64 0) k (by have := Own.ne (unhide Ol_12) (unhide Kn_12) (by decide) k hk; simpa using this)))
  have Om_13 := hide ((unhide Om_12).keep (fun k hk => Below.heap_setCell w9 ⟨TN, 3, none⟩ (.int .i64 0) k (by have := Own.ne (unhide Om_12) (unhide Kn_12) (by decide) k hk; simpa using this)))
  obtain ⟨W10, eW10⟩ : ∃ X, w9.setCell ⟨TN, 3, none⟩ (.int .i64 0) = X := ⟨_, rfl⟩
  rw [eW10] at HX_13 Kd_13 Ka_13 Kf1_13 Kb_13 Kf2_13 Kc_13 Kf3_13 Kw_13 Kn_13 Ol_13 Om_13 ⊢
  clear eW10 HX_12 Kd_12 Ka_12 Kf1_12 Kb_12 Kf2_12 Kc_12 Kf3_12 Kw_12 Kn_12 Ol_12 Om_12
  simp only [List.setIfInBounds_toArray, List.set_cons_zero, List.set_cons_succ] at Kn_13
  obtain ⟨⟨n0, n1, n2, n3, n4, n5, n6⟩, ⟨nf0, nf1, nf2, nf3, nf4, nf5, nf6⟩, nl⟩ := block7 (unhide Kn_13)
  obtain ⟨⟨a0, a1, a2, a3, a4, a5, a6⟩, ⟨af0, af1, af2, af3, af4, af5, af6⟩, al⟩ := block7 (unhide Ka_13)
  go_upto_region 24 with fail
  clear n0 n1 n2 n3 n4 n5 n6 nf0 nf1 nf2 nf3 nf4 nf5 nf6 nl a0 a1 a2 a3 a4 a5 a6 af0 af1 af2 af3 af4 af5 af6 al
  exact times_tail w false r0 r1 t0 t1 u0 u1 now 0 0 b0 b1 b2 b3 b4 b5 b6 L G0 G1 c0 M p n m la lk ma mk TB TC TW _ _ (unhide HC0) (unhide HR1) (unhide HR2) (unhide HN) (unhide HM) _ (unhide HX_13) (unhide Kd_13) (unhide Kb_13) (unhide Kf2_13) (unhide Kc_13) (unhide Kf3_13) (unhide Kw_13) (unhide Ol_13) (unhide Om_13) ⟨by omega, by omega, by omega⟩ _ _ _ (by assumption) (by kernel_rfl)

end Go.Proofs.Ytmghfedlpndpiaa
