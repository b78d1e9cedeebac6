/-
  taskmilllaw.PollWaits, one theorem a way.
-/
import Derived.Test.YtmghfedlpndpiaaO
namespace Go.Proofs.Ytmghfedlpndpiaa
open Go.RowKit

set_option maxRecDepth 100000 in
set_option maxHeartbeats 4000000 in
theorem waits0_task_false (w : World) (r0 r1 : Bool) (t0 t1 u0 u1 task now : Int) (hC : descF false r0 r1 t0 t1 u0 u1 = (0, 0)) (h1 : task < 1) :
    Calls Try.prog 3 #[.agg #[.bool false, .bool r0, .bool r1, .int .i64 t0, .int .i64 t1, .int .i64 u0, .int .i64 u1], .int .i64 0, .int .i64 task, .int .i64 now] w fun e w' => e = .returned (.bool true) ∧ Below w.heap.size w w' := by
  have HCK : Hid (∀ W, Calls Try.prog 6 #[.agg #[.bool false, .bool r0, .bool r1, .int .i64 t0, .int .i64 t1, .int .i64 u0, .int .i64 u1]] W fun e w' => e = .returned (.agg #[.int .i64 0, .int .i64 0]) ∧ Below W.heap.size W w') := fun W => check_any W false r0 r1 t0 t1 u0 u1 0 0 hC
  have HDF : Hid (∀ W, Calls Try.prog 10 #[.agg #[.bool false, .bool r0, .bool r1, .int .i64 t0, .int .i64 t1, .int .i64 u0, .int .i64 u1]] W fun e w' => e = .returned (.agg #[.int .i64 0, .int .i64 0]) ∧ Below W.heap.size W w') := fun W => descFault_any W false r0 r1 t0 t1 u0 u1 0 0 hC
  have HWF : Hid (∀ W, Calls Try.prog 11 #[.agg #[.bool false, .bool r0, .bool r1, .int .i64 t0, .int .i64 t1, .int .i64 u0, .int .i64 u1], .int .i64 0] W fun e w' => e = .returned (.agg #[.int .i64 0, .int .i64 0]) ∧ Below W.heap.size W w') := fun W => wayFault_any W false r0 r1 t0 t1 u0 u1 0 0 0 0 0 hC (show onF (0, 0) 0 = (0, 0) by decide)
  have HWT : Hid (∀ W, Calls Try.prog 7 #[.agg #[.bool false, .bool r0, .bool r1, .int .i64 t0, .int .i64 t1, .int .i64 u0, .int .i64 u1], .int .i64 0, .int .i64 task, .int .i64 now] W fun e w' => e = .returned (.tuple #[.agg #[.bool false, .bool false, .bool false, .int .i64 0, .int .i64 0, .int .i64 0, .int .i64 0], .int .i64 0, .agg #[.int .i64 3, .int .i64 (-1)]]) ∧ Below W.heap.size W w') := fun W => wait0_fault W false r0 r1 t0 t1 u0 u1 task now 0 0 3 (-1) hC (show waitF (onF (0, 0) 0) t0 t1 task now = (3, (-1)) by rw [show onF (0, 0) 0 = (0, 0) from by decide]; unfold waitF; rw [if_neg (by simp), if_pos (Or.inl h1)]) (by decide)
  have HFI : Hid (∀ W, Calls Try.prog 8 #[.agg #[.bool false, .bool r0, .bool r1, .int .i64 t0, .int .i64 t1, .int .i64 u0, .int .i64 u1], .int .i64 0] W fun e w' => e = .returned (.tuple #[.agg #[.bool false, .bool (t0 == 0), .bool r1, .int .i64 0, .int .i64 t1, .int .i64 u0, .int .i64 u1], .int .i64 t0, .agg #[.int .i64 0, .int .i64 0]]) ∧ Below W.heap.size W w') := fun W => fire0_well W false r0 r1 t0 t1 u0 u1 0 0 0 hC (by decide) rfl
  clear hC
  have xi := arr_i; have xb := arr_b
  have xbb : ∀ b : Bool, (b == b) = true := fun b => by cases b <;> rfl
  have xii : ∀ b : Int, (b == b) = true := fun b => by simp
  obtain ⟨W0, e0, hB, k0⟩ := one_new w (.cells #[.bool false, .bool r0, .bool r1, .int .i64 t0, .int .i64 t1, .int .i64 u0, .int .i64 u1] 25)
  have HX := hide hB; have HE := hide e0; have HD := hide k0
  clear hB e0 k0
  go_enter Try.func3, Try.ntmps3
  go_upto_region 1 with fail
  rw [unhide HE]
  clear HE
  obtain ⟨⟨p0, p1, p2, p3, p4, p5, p6⟩, ⟨pf0, pf1, pf2, pf3, pf4, pf5, pf6⟩, pl⟩ := block7 (unhide HD)
  go_upto_region 2 with (go_at_call 6; refine (unhide HCK _).mono ?_; rintro e w1 ⟨rfl, hb1⟩; have HX_1 := hide (Below.next (unhide HX) hb1 (by first | exact Nat.le_refl _ | (have := unhide HBA; omega))); have Kd_1 := hide (keep_below (unhide HD) hb1); clear HX HD; clear hb1 HCK p0 p1 p2 p3 p4 p5 p6 pf0 pf1 pf2 pf3 pf4 pf5 pf6 pl)
  have HX_2 := hide ((unhide HX_1).alloc (Nat.le_trans (show w.heap.size ≤ w.heap.size from Nat.le_refl _) (unhide HX_1).size) (.cells #[.int .i64 0, .int .i64 0] 27))
  have Kd_2 := hide (keep_alloc (unhide Kd_1) (.cells #[.int .i64 0, .int .i64 0] 27))
  have Kc_2 := hide (new_block w1 (.cells #[.int .i64 0, .int .i64 0] 27))
  have hld_c : w.heap.size < w1.heap.size := size_of (unhide Kd_1)
  obtain ⟨TC, eTC⟩ : ∃ X, w1.heap.size = X := ⟨_, rfl⟩
  obtain ⟨W1, eW1⟩ : ∃ X, w1.alloc (.cells #[.int .i64 0, .int .i64 0] 27) = X := ⟨_, rfl⟩
  rw [eTC, eW1] at Kc_2; rw [eW1] at HX_2 Kd_2; rw [eTC] at hld_c; rw [eTC, eW1]
  clear eTC eW1 HX_1 Kd_1
  obtain ⟨⟨p0, p1, p2, p3, p4, p5, p6⟩, ⟨pf0, pf1, pf2, pf3, pf4, pf5, pf6⟩, pl⟩ := block7 (unhide Kd_2)
  go_upto_region 3 with (go_at_call 7; refine (unhide HWT _).mono ?_; rintro e w2 ⟨rfl, hb2⟩; have HX_3 := hide (Below.next (unhide HX_2) hb2 (by first | exact Nat.le_refl _ | (have := unhide HBA; omega))); have Kd_3 := hide (keep_below (unhide Kd_2) hb2); have Kc_3 := hide (keep_below (unhide Kc_2) hb2); clear HX_2 Kd_2 Kc_2; clear hb2 HWT p0 p1 p2 p3 p4 p5 p6 pf0 pf1 pf2 pf3 pf4 pf5 pf6 pl)
  obtain ⟨W2, eW2, hBW2, k0_4, k1_4⟩ := two_new w2 (.cells #[.bool false, .bool false, .bool false, .int .i64 0, .int .i64 0, .int .i64 0, .int .i64 0] 25) (.cells #[.int .i64 3, .int .i64 (-1)] 27)
  rw [eW2]
  clear eW2
  have hld_a : w.heap.size < w2.heap.size := size_of (unhide Kd_3)
  have hlc_a : TC < w2.heap.size := size_of (unhide Kc_3)
  (have HX_4 := hide (Below.next (unhide HX_3) hBW2 (by first | exact Nat.le_refl _ | (have := unhide HBA; omega))); have Kd_4 := hide (keep_below (unhide Kd_3) hBW2); have Kc_4 := hide (keep_below (unhide Kc_3) hBW2); clear HX_3 Kd_3 Kc_3)
  obtain ⟨TA, eTA⟩ : ∃ X, w2.heap.size = X := ⟨_, rfl⟩
  rw [eTA] at k0_4 k1_4 hld_a hlc_a ⊢
  have Ka_4 := hide k0_4
  have Kf1_4 := hide k1_4
  clear eTA hBW2 k0_4 k1_4
  obtain ⟨⟨p0, p1, p2, p3, p4, p5, p6⟩, ⟨pf0, pf1, pf2, pf3, pf4, pf5, pf6⟩, pl⟩ := block7 (unhide Kd_4)
  go_upto_region 4 with (go_at_call 8; refine (unhide HFI _).mono ?_; rintro e w3 ⟨rfl, hb3⟩; have HX_5 := hide (Below.next (unhide HX_4) hb3 (by first | exact Nat.le_refl _ | (have := unhide HBA; omega))); have Kd_5 := hide (keep_below (unhide Kd_4) hb3); have Kc_5 := hide (keep_below (unhide Kc_4) hb3); have Ka_5 := hide (keep_below (unhide Ka_4) hb3); have Kf1_5 := hide (keep_below (unhide Kf1_4) hb3); clear HX_4 Kd_4 Kc_4 Ka_4 Kf1_4; clear hb3 HFI p0 p1 p2 p3 p4 p5 p6 pf0 pf1 pf2 pf3 pf4 pf5 pf6 pl)
  obtain ⟨W3, eW3, hBW3, k0_6, k1_6⟩ := two_new w3 (.cells #[.bool false, .bool (t0 == 0), .bool r1, .int .i64 0, .int .i64 t1, .int .i64 u0, .int .i64 u1] 25) (.cells #[.int .i64 0, .int .i64 0] 27)
  rw [eW3]
  clear eW3
  have hld_b : w.heap.size < w3.heap.size := size_of (unhide Kd_5)
  have hlc_b : TC < w3.heap.size := size_of (unhide Kc_5)
  have hla_b : TA < w3.heap.size := size_of (unhide Ka_5)
  have hlf1_b : TA + 1 < w3.heap.size := size_of (unhide Kf1_5)
  (have HX_6 := hide (Below.next (unhide HX_5) hBW3 (by first | exact Nat.le_refl _ | (have := unhide HBA; omega))); have Kd_6 := hide (keep_below (unhide Kd_5) hBW3); have Kc_6 := hide (keep_below (unhide Kc_5) hBW3); have Ka_6 := hide (keep_below (unhide Ka_5) hBW3); have Kf1_6 := hide (keep_below (unhide Kf1_5) hBW3); clear HX_5 Kd_5 Kc_5 Ka_5 Kf1_5)
  obtain ⟨TB, eTB⟩ : ∃ X, w3.heap.size = X := ⟨_, rfl⟩
  rw [eTB] at k0_6 k1_6 hld_b hlc_b hla_b hlf1_b ⊢
  have Kb_6 := hide k0_6
  have Kf2_6 := hide k1_6
  clear eTB hBW3 k0_6 k1_6
  have HSS : Hid (∀ W, Below W3.heap.size W3 W → (W.cell? ⟨w.heap.size, 0, none⟩ = some (.bool false) ∧ W.cell? ⟨w.heap.size, 1, none⟩ = some (.bool r0) ∧ W.cell? ⟨w.heap.size, 2, none⟩ = some (.bool r1) ∧ W.cell? ⟨w.heap.size, 3, none⟩ = some (.int .i64 t0) ∧ W.cell? ⟨w.heap.size, 4, none⟩ = some (.int .i64 t1) ∧ W.cell? ⟨w.heap.size, 5, none⟩ = some (.int .i64 u0) ∧ W.cell? ⟨w.heap.size, 6, none⟩ = some (.int .i64 u1)) ∧ (W.cell? ⟨TC, 0, none⟩ = some (.int .i64 0) ∧ W.cell? ⟨TC, 1, none⟩ = some (.int .i64 0)) ∧ Below W3.heap.size W3 W) := fun W hW => ⟨(block7 (keep_below (unhide Kd_6) hW)).1, ⟨(block2 (keep_below (unhide Kc_6) hW)).1, (block2 (keep_below (unhide Kc_6) hW)).2.1⟩, hW⟩
  obtain ⟨⟨p0, p1, p2, p3, p4, p5, p6⟩, ⟨q0, q1⟩, -⟩ := unhide HSS _ (Below.refl _ _)
  go_wp2_with fail
  go_region_held3 (fun W => (W.cell? ⟨w.heap.size, 0, none⟩ = some (.bool false) ∧ W.cell? ⟨w.heap.size, 1, none⟩ = some (.bool r0) ∧ W.cell? ⟨w.heap.size, 2, none⟩ = some (.bool r1) ∧ W.cell? ⟨w.heap.size, 3, none⟩ = some (.int .i64 t0) ∧ W.cell? ⟨w.heap.size, 4, none⟩ = some (.int .i64 t1) ∧ W.cell? ⟨w.heap.size, 5, none⟩ = some (.int .i64 u0) ∧ W.cell? ⟨w.heap.size, 6, none⟩ = some (.int .i64 u1)) ∧ (W.cell? ⟨TC, 0, none⟩ = some (.int .i64 0) ∧ W.cell? ⟨TC, 1, none⟩ = some (.int .i64 0)) ∧ Below W3.heap.size W3 W)
    (first | with_reducible exact unhide HSS _ (Below.refl _ _) | with_reducible exact unhide HSS _ (Below.refl _ _).drew | with_reducible exact unhide HSS _ (unhide HY7) | with_reducible exact unhide HSS _ (unhide HY8))
    (first | (go_at_call 9; refine (begun_any _).mono ?_; rintro e w4 ⟨rfl, hb7⟩; have HY7 : Hid (Below W3.heap.size W3 w4) := Below.next (by go_split_ands; assumption) hb7 (Nat.le_refl _); clear hb7) | (go_at_call 10; refine (unhide HDF _).mono ?_; rintro e w5 ⟨rfl, hb8⟩; have HY8 : Hid (Below W3.heap.size W3 w5) := Below.next (by go_split_ands; assumption) hb8 (Nat.le_refl _); clear hb8))
  clear p0 p1 p2 p3 p4 p5 p6 q0 q1 HSS HDF
  (have HX_7 := hide (Below.next (unhide HX_6) (unhide HY8) (by first | exact Nat.le_refl _ | (have := unhide HBA; omega))); have Kd_7 := hide (keep_below (unhide Kd_6) (unhide HY8)); have Kc_7 := hide (keep_below (unhide Kc_6) (unhide HY8)); have Ka_7 := hide (keep_below (unhide Ka_6) (unhide HY8)); have Kf1_7 := hide (keep_below (unhide Kf1_6) (unhide HY8)); have Kb_7 := hide (keep_below (unhide Kb_6) (unhide HY8)); have Kf2_7 := hide (keep_below (unhide Kf2_6) (unhide HY8)); clear HX_6 Kd_6 Kc_6 Ka_6 Kf1_6 Kb_6 Kf2_6)
  clear HY7 HY8
  obtain ⟨⟨p0, p1, p2, p3, p4, p5, p6⟩, ⟨pf0, pf1, pf2, pf3, pf4, pf5, pf6⟩, pl⟩ := block7 (unhide Kd_7)
  go_upto_region 7 with (go_at_call 11; refine (unhide HWF _).mono ?_; rintro e w6 ⟨rfl, hb6⟩; have HX_8 := hide (Below.next (unhide HX_7) hb6 (by first | exact Nat.le_refl _ | (have := unhide HBA; omega))); have Kd_8 := hide (keep_below (unhide Kd_7) hb6); have Kc_8 := hide (keep_below (unhide Kc_7) hb6); have Ka_8 := hide (keep_below (unhide Ka_7) hb6); have Kf1_8 := hide (keep_below (unhide Kf1_7) hb6); have Kb_8 := hide (keep_below (unhide Kb_7) hb6); have Kf2_8 := hide (keep_below (unhide Kf2_7) hb6); clear HX_7 Kd_7 Kc_7 Ka_7 Kf1_7 Kb_7 Kf2_7; clear hb6 HWF p0 p1 p2 p3 p4 p5 p6 pf0 pf1 pf2 pf3 pf4 pf5 pf6 pl)
  have HX_9 := hide ((unhide HX_8).alloc (Nat.le_trans (show w.heap.size ≤ w.heap.size from Nat.le_refl _) (unhide HX_8).size) (.cells #[.int .i64 0, .int .i64 0] 27))
  have Kd_9 := hide (keep_alloc (unhide Kd_8) (.cells #[.int .i64 0, .int .i64 0] 27))
  have Kc_9 := hide (keep_alloc (unhide Kc_8) (.cells #[.int .i64 0, .int .i64 0] 27))
  have Ka_9 := hide (keep_alloc (unhide Ka_8) (.cells #[.int .i64 0, .int .i64 0] 27))
  have Kf1_9 := hide (keep_alloc (unhide Kf1_8) (.cells #[.int .i64 0, .int .i64 0] 27))
  have Kb_9 := hide (keep_alloc (unhide Kb_8) (.cells #[.int .i64 0, .int .i64 0] 27))
  have Kf2_9 := hide (keep_alloc (unhide Kf2_8) (.cells #[.int .i64 0, .int .i64 0] 27))
  have Kv_9 := hide (new_block w6 (.cells #[.int .i64 0, .int .i64 0] 27))
  have hld_v : w.heap.size < w6.heap.size := size_of (unhide Kd_8)
  have hlc_v : TC < w6.heap.size := size_of (unhide Kc_8)
  have hla_v : TA < w6.heap.size := size_of (unhide Ka_8)
  have hlf1_v : TA + 1 < w6.heap.size := size_of (unhide Kf1_8)
  have hlb_v : TB < w6.heap.size := size_of (unhide Kb_8)
  have hlf2_v : TB + 1 < w6.heap.size := size_of (unhide Kf2_8)
  obtain ⟨TV, eTV⟩ : ∃ X, w6.heap.size = X := ⟨_, rfl⟩
  obtain ⟨W5, eW5⟩ : ∃ X, w6.alloc (.cells #[.int .i64 0, .int .i64 0] 27) = X := ⟨_, rfl⟩
  rw [eTV, eW5] at Kv_9; rw [eW5] at HX_9 Kd_9 Kc_9 Ka_9 Kf1_9 Kb_9 Kf2_9; rw [eTV] at hld_v hlc_v hla_v hlf1_v hlb_v hlf2_v; rw [eTV, eW5]
  clear eTV eW5 HX_8 Kd_8 Kc_8 Ka_8 Kf1_8 Kb_8 Kf2_8
  obtain ⟨v0, v1, vf0, vf1, vl⟩ := block2 (unhide Kv_9)
  go_upto_region 8 with fail
  clear v0 v1 vf0 vf1 vl
  have HX_10 := hide ((unhide HX_9).alloc (Nat.le_trans (show w.heap.size ≤ w.heap.size from Nat.le_refl _) (unhide HX_9).size) (.cells #[.int .i64 0, .int .i64 0] 27))
  have Kd_10 := hide (keep_alloc (unhide Kd_9) (.cells #[.int .i64 0, .int .i64 0] 27))
  have Kc_10 := hide (keep_alloc (unhide Kc_9) (.cells #[.int .i64 0, .int .i64 0] 27))
  have Ka_10 := hide (keep_alloc (unhide Ka_9) (.cells #[.int .i64 0, .int .i64 0] 27))
  have Kf1_10 := hide (keep_alloc (unhide Kf1_9) (.cells #[.int .i64 0, .int .i64 0] 27))
  have Kb_10 := hide (keep_alloc (unhide Kb_9) (.cells #[.int .i64 0, .int .i64 0] 27))
  have Kf2_10 := hide (keep_alloc (unhide Kf2_9) (.cells #[.int .i64 0, .int .i64 0] 27))
  have Kv_10 := hide (keep_alloc (unhide Kv_9) (.cells #[.int .i64 0, .int .i64 0] 27))
  have Kw_10 := hide (new_block W5 (.cells #[.int .i64 0, .int .i64 0] 27))
  have hld_w : w.heap.size < W5.heap.size := size_of (unhide Kd_9)
  have hlc_w : TC < W5.heap.size := size_of (unhide Kc_9)
  have hla_w : TA < W5.heap.size := size_of (unhide Ka_9)
  have hlf1_w : TA + 1 < W5.heap.size := size_of (unhide Kf1_9)
  have hlb_w : TB < W5.heap.size := size_of (unhide Kb_9)
  have hlf2_w : TB + 1 < W5.heap.size := size_of (unhide Kf2_9)
  have hlv_w : TV < W5.heap.size := size_of (unhide Kv_9)
  obtain ⟨TW, eTW⟩ : ∃ X, W5.heap.size = X := ⟨_, rfl⟩
  obtain ⟨W6, eW6⟩ : ∃ X, W5.alloc (.cells #[.int .i64 0, .int .i64 0] 27) = X := ⟨_, rfl⟩
  rw [eTW, eW6] at Kw_10; rw [eW6] at HX_10 Kd_10 Kc_10 Ka_10 Kf1_10 Kb_10 Kf2_10 Kv_10; rw [eTW] at hld_w hlc_w hla_w hlf1_w hlb_w hlf2_w hlv_w; rw [eTW, eW6]
  clear eTW eW6 HX_9 Kd_9 Kc_9 Ka_9 Kf1_9 Kb_9 Kf2_9 Kv_9
  obtain ⟨x0, x1, xf0, xf1, xl⟩ := block2 (unhide Kw_10)
  obtain ⟨⟨p0, p1, p2, p3, p4, p5, p6⟩, ⟨pf0, pf1, pf2, pf3, pf4, pf5, pf6⟩, pl⟩ := block7 (unhide Kd_10)
  go_upto_region 10 with (go_at_call 12; refine (f_any _ _ _).mono ?_; rintro e w7 ⟨rfl, hb7⟩; have HX_11 := hide (Below.next (unhide HX_10) hb7 (by first | exact Nat.le_refl _ | (have := unhide HBA; omega))); have Kd_11 := hide (keep_below (unhide Kd_10) hb7); have Kc_11 := hide (keep_below (unhide Kc_10) hb7); have Ka_11 := hide (keep_below (unhide Ka_10) hb7); have Kf1_11 := hide (keep_below (unhide Kf1_10) hb7); have Kb_11 := hide (keep_below (unhide Kb_10) hb7); have Kf2_11 := hide (keep_below (unhide Kf2_10) hb7); have Kv_11 := hide (keep_below (unhide Kv_10) hb7); have Kw_11 := hide (keep_below (unhide Kw_10) hb7); clear HX_10 Kd_10 Kc_10 Ka_10 Kf1_10 Kb_10 Kf2_10 Kv_10 Kw_10; clear hb7 p0 p1 p2 p3 p4 p5 p6 pf0 pf1 pf2 pf3 pf4 pf5 pf6 pl x0 x1 xf0 xf1 xl; obtain ⟨x0, x1, xf0, xf1, xl⟩ := block2 (unhide Kw_11))
  clear x0 x1 xf0 xf1 xl
  have HX_12 := hide (put2_below (y0 := .int .i64 3) (y1 := .int .i64 (-1)) (unhide HX_11) (show w.heap.size ≤ TW by first | omega | (have := unhide HBA; omega)))
  have Kd_12 := hide ((put2_keep (y0 := .int .i64 3) (y1 := .int .i64 (-1)) (show w.heap.size ≠ TW by omega)).trans (unhide Kd_11))
  have Kc_12 := hide ((put2_keep (y0 := .int .i64 3) (y1 := .int .i64 (-1)) (show TC ≠ TW by omega)).trans (unhide Kc_11))
  have Ka_12 := hide ((put2_keep (y0 := .int .i64 3) (y1 := .int .i64 (-1)) (show TA ≠ TW by omega)).trans (unhide Ka_11))
  have Kf1_12 := hide ((put2_keep (y0 := .int .i64 3) (y1 := .int .i64 (-1)) (show TA + 1 ≠ TW by omega)).trans (unhide Kf1_11))
  have Kb_12 := hide ((put2_keep (y0 := .int .i64 3) (y1 := .int .i64 (-1)) (show TB ≠ TW by omega)).trans (unhide Kb_11))
  have Kf2_12 := hide ((put2_keep (y0 := .int .i64 3) (y1 := .int .i64 (-1)) (show TB + 1 ≠ TW by omega)).trans (unhide Kf2_11))
  have Kv_12 := hide ((put2_keep (y0 := .int .i64 3) (y1 := .int .i64 (-1)) (show TV ≠ TW by omega)).trans (unhide Kv_11))
  have Kw_12 := hide (put2_new (y0 := .int .i64 3) (y1 := .int .i64 (-1)) (unhide Kw_11))
  obtain ⟨W7, eW7⟩ : ∃ X, put2 w7 (TW) (.int .i64 3) (.int .i64 (-1)) = X := ⟨_, rfl⟩
  rw [eW7] at HX_12 Kd_12 Kc_12 Ka_12 Kf1_12 Kb_12 Kf2_12 Kv_12 Kw_12
  have eW72 : ((w7).setCell ⟨TW, 0, none⟩ (.int .i64 3)).setCell ⟨TW, 1, none⟩ (.int .i64 (-1)) = W7 := eW7
  rw [eW72]
  clear eW7 eW72 HX_11 Kd_11 Kc_11 Ka_11 Kf1_11 Kb_11 Kf2_11 Kv_11 Kw_11
  obtain ⟨x0, x1, xf0, xf1, xl⟩ := block2 (unhide Kw_12)
  obtain ⟨⟨p0, p1, p2, p3, p4, p5, p6⟩, ⟨pf0, pf1, pf2, pf3, pf4, pf5, pf6⟩, pl⟩ := block7 (unhide Kd_12)
  obtain ⟨e0, e1, ef0, ef1, el⟩ := block2 (unhide Kf1_12)
  go_upto_region 17 with fail
  clear x0 x1 xf0 xf1 xl p0 p1 p2 p3 p4 p5 p6 pf0 pf1 pf2 pf3 pf4 pf5 pf6 pl e0 e1 ef0 ef1 el
  have HX_13 := hide ((unhide HX_12).alloc (Nat.le_trans (show w.heap.size ≤ w.heap.size from Nat.le_refl _) (unhide HX_12).size) (.cells #[.bool false, .bool r0, .bool r1, .int .i64 t0, .int .i64 t1, .int .i64 u0, .int .i64 u1] 25))
  have Kd_13 := hide (keep_alloc (unhide Kd_12) (.cells #[.bool false, .bool r0, .bool r1, .int .i64 t0, .int .i64 t1, .int .i64 u0, .int .i64 u1] 25))
  have Kc_13 := hide (keep_alloc (unhide Kc_12) (.cells #[.bool false, .bool r0, .bool r1, .int .i64 t0, .int .i64 t1, .int .i64 u0, .int .i64 u1] 25))
  have Ka_13 := hide (keep_alloc (unhide Ka_12) (.cells #[.bool false, .bool r0, .bool r1, .int .i64 t0, .int .i64 t1, .int .i64 u0, .int .i64 u1] 25))
  have Kf1_13 := hide (keep_alloc (unhide Kf1_12) (.cells #[.bool false, .bool r0, .bool r1, .int .i64 t0, .int .i64 t1, .int .i64 u0, .int .i64 u1] 25))
  have Kb_13 := hide (keep_alloc (unhide Kb_12) (.cells #[.bool false, .bool r0, .bool r1, .int .i64 t0, .int .i64 t1, .int .i64 u0, .int .i64 u1] 25))
  have Kf2_13 := hide (keep_alloc (unhide Kf2_12) (.cells #[.bool false, .bool r0, .bool r1, .int .i64 t0, .int .i64 t1, .int .i64 u0, .int .i64 u1] 25))
  have Kv_13 := hide (keep_alloc (unhide Kv_12) (.cells #[.bool false, .bool r0, .bool r1, .int .i64 t0, .int .i64 t1, .int .i64 u0, .int .i64 u1] 25))
  have Kw_13 := hide (keep_alloc (unhide Kw_12) (.cells #[.bool false, .bool r0, .bool r1, .int .i64 t0, .int .i64 t1, .int .i64 u0, .int .i64 u1] 25))
  have Kn_13 := hide (new_block W7 (.cells #[.bool false, .bool r0, .bool r1, .int .i64 t0, .int .i64 t1, .int .i64 u0, .int .i64 u1] 25))
  have hld_n : w.heap.size < W7.heap.size := size_of (unhide Kd_12)
  have hlc_n : TC < W7.heap.size := size_of (unhide Kc_12)
  have hla_n : TA < W7.heap.size := size_of (unhide Ka_12)
  have hlf1_n : TA + 1 < W7.heap.size := size_of (unhide Kf1_12)
  have hlb_n : TB < W7.heap.size := size_of (unhide Kb_12)
  have hlf2_n : TB + 1 < W7.heap.size := size_of (unhide Kf2_12)
  have hlv_n : TV < W7.heap.size := size_of (unhide Kv_12)
  have hlw_n : TW < W7.heap.size := size_of (unhide Kw_12)
  obtain ⟨TN, eTN⟩ : ∃ X, W7.heap.size = X := ⟨_, rfl⟩
  obtain ⟨W8, eW8⟩ : ∃ X, W7.alloc (.cells #[.bool false, .bool r0, .bool r1, .int .i64 t0, .int .i64 t1, .int .i64 u0, .int .i64 u1] 25) = X := ⟨_, rfl⟩
  rw [eTN, eW8] at Kn_13; rw [eW8] at HX_13 Kd_13 Kc_13 Ka_13 Kf1_13 Kb_13 Kf2_13 Kv_13 Kw_13; rw [eTN] at hld_n hlc_n hla_n hlf1_n hlb_n hlf2_n hlv_n hlw_n; rw [eTN, eW8]
  clear eTN eW8 HX_12 Kd_12 Kc_12 Ka_12 Kf1_12 Kb_12 Kf2_12 Kv_12 Kw_12
  obtain ⟨⟨n0, n1, n2, n3, n4, n5, n6⟩, ⟨nf0, nf1, nf2, nf3, nf4, nf5, nf6⟩, nl⟩ := block7 (unhide Kn_13)
  obtain ⟨x0, x1, xf0, xf1, xl⟩ := block2 (unhide Kw_13)
  obtain ⟨⟨p0, p1, p2, p3, p4, p5, p6⟩, ⟨pf0, pf1, pf2, pf3, pf4, pf5, pf6⟩, pl⟩ := block7 (unhide Kd_13)
  obtain ⟨⟨a0, a1, a2, a3, a4, a5, a6⟩, ⟨af0, af1, af2, af3, af4, af5, af6⟩, al⟩ := block7 (unhide Ka_13)
  obtain ⟨⟨b0, b1, b2, b3, b4, b5, b6⟩, ⟨bf0, bf1, bf2, bf3, bf4, bf5, bf6⟩, bl⟩ := block7 (unhide Kb_13)
  obtain ⟨e0, e1, ef0, ef1, el⟩ := block2 (unhide Kf2_13)
  obtain ⟨v0, v1, vf0, vf1, vl⟩ := block2 (unhide Kv_13)
  have ned : w.heap.size ≠ TN := Nat.ne_of_lt hld_n
  have nfd : TN ≠ w.heap.size := Nat.ne_of_gt hld_n
  have nea : TA ≠ TN := Nat.ne_of_lt hla_n
  have nfa : TN ≠ TA := Nat.ne_of_gt hla_n
  have neb : TB ≠ TN := Nat.ne_of_lt hlb_n
  have nfb : TN ≠ TB := Nat.ne_of_gt hlb_n
  have nef2 : TB + 1 ≠ TN := Nat.ne_of_lt hlf2_n
  have nff2 : TN ≠ TB + 1 := Nat.ne_of_gt hlf2_n
  have nev : TV ≠ TN := Nat.ne_of_lt hlv_n
  have nfv : TN ≠ TV := Nat.ne_of_gt hlv_n
  have new : TW ≠ TN := Nat.ne_of_lt hlw_n
  have nfw : TN ≠ TW := Nat.ne_of_gt hlw_n
  go_upto_region 28 with fail
  clear n0 n1 n2 n3 n4 n5 n6 nf0 nf1 nf2 nf3 nf4 nf5 nf6 nl x0 x1 xf0 xf1 xl p0 p1 p2 p3 p4 p5 p6 pf0 pf1 pf2 pf3 pf4 pf5 pf6 pl a0 a1 a2 a3 a4 a5 a6 af0 af1 af2 af3 af4 af5 af6 al b0 b1 b2 b3 b4 b5 b6 bf0 bf1 bf2 bf3 bf4 bf5 bf6 bl e0 e1 ef0 ef1 el v0 v1 vf0 vf1 vl
  have HX_14 := hide (put7_below (y0 := .bool false) (y1 := .bool false) (y2 := .bool false) (y3 := .int .i64 0) (y4 := .int .i64 0) (y5 := .int .i64 0) (y6 := .int .i64 0) (unhide HX_13) (show w.heap.size ≤ TN by first | omega | (have := unhide HBA; omega)))
  have Kd_14 := hide ((put7_keep (y0 := .bool false) (y1 := .bool false) (y2 := .bool false) (y3 := .int .i64 0) (y4 := .int .i64 0) (y5 := .int .i64 0) (y6 := .int .i64 0) (show w.heap.size ≠ TN by omega)).trans (unhide Kd_13))
  have Kc_14 := hide ((put7_keep (y0 := .bool false) (y1 := .bool false) (y2 := .bool false) (y3 := .int .i64 0) (y4 := .int .i64 0) (y5 := .int .i64 0) (y6 := .int .i64 0) (show TC ≠ TN by omega)).trans (unhide Kc_13))
  have Ka_14 := hide ((put7_keep (y0 := .bool false) (y1 := .bool false) (y2 := .bool false) (y3 := .int .i64 0) (y4 := .int .i64 0) (y5 := .int .i64 0) (y6 := .int .i64 0) (show TA ≠ TN by omega)).trans (unhide Ka_13))
  have Kf1_14 := hide ((put7_keep (y0 := .bool false) (y1 := .bool false) (y2 := .bool false) (y3 := .int .i64 0) (y4 := .int .i64 0) (y5 := .int .i64 0) (y6 := .int .i64 0) (show TA + 1 ≠ TN by omega)).trans (unhide Kf1_13))
  have Kb_14 := hide ((put7_keep (y0 := .bool false) (y1 := .bool false) (y2 := .bool false) (y3 := .int .i64 0) (y4 := .int .i64 0) (y5 := .int .i64 0) (y6 := .int .i64 0) (show TB ≠ TN by omega)).trans (unhide Kb_13))
  have Kf2_14 := hide ((put7_keep (y0 := .bool false) (y1 := .bool false) (y2 := .bool false) (y3 := .int .i64 0) (y4 := .int .i64 0) (y5 := .int .i64 0) (y6 := .int .i64 0) (show TB + 1 ≠ TN by omega)).trans (unhide Kf2_13))
  have Kv_14 := hide ((put7_keep (y0 := .bool false) (y1 := .bool false) (y2 := .bool false) (y3 := .int .i64 0) (y4 := .int .i64 0) (y5 := .int .i64 0) (y6 := .int .i64 0) (show TV ≠ TN by omega)).trans (unhide Kv_13))
  have Kw_14 := hide ((put7_keep (y0 := .bool false) (y1 := .bool false) (y2 := .bool false) (y3 := .int .i64 0) (y4 := .int .i64 0) (y5 := .int .i64 0) (y6 := .int .i64 0) (show TW ≠ TN by omega)).trans (unhide Kw_13))
  have Kn_14 := hide (put7_new (y0 := .bool false) (y1 := .bool false) (y2 := .bool false) (y3 := .int .i64 0) (y4 := .int .i64 0) (y5 := .int .i64 0) (y6 := .int .i64 0) (unhide Kn_13))
  obtain ⟨W9, eW9⟩ : ∃ X, put7 W8 (TN) (.bool false) (.bool false) (.bool false) (.int .i64 0) (.int .i64 0) (.int .i64 0) (.int .i64 0) = X := ⟨_, rfl⟩
  rw [eW9] at HX_14 Kd_14 Kc_14 Ka_14 Kf1_14 Kb_14 Kf2_14 Kv_14 Kw_14 Kn_14
  have eW92 : (((((((W8).setCell ⟨TN, 0, none⟩ (.bool false)).setCell ⟨TN, 1, none⟩ (.bool false)).setCell ⟨TN, 2, none⟩ (.bool false)).setCell ⟨TN, 3, none⟩ (.int .i64 0)).setCell ⟨TN, 4, none⟩ (.int .i64 0)).setCell ⟨TN, 5, none⟩ (.int .i64 0)).setCell ⟨TN, 6, none⟩ (.int .i64 0) = W9 := eW9
  rw [eW92]
  clear eW9 eW92 HX_13 Kd_13 Kc_13 Ka_13 Kf1_13 Kb_13 Kf2_13 Kv_13 Kw_13 Kn_13
  obtain ⟨⟨n0, n1, n2, n3, n4, n5, n6⟩, ⟨nf0, nf1, nf2, nf3, nf4, nf5, nf6⟩, nl⟩ := block7 (unhide Kn_14)
  obtain ⟨⟨p0, p1, p2, p3, p4, p5, p6⟩, ⟨pf0, pf1, pf2, pf3, pf4, pf5, pf6⟩, pl⟩ := block7 (unhide Kd_14)
  obtain ⟨⟨a0, a1, a2, a3, a4, a5, a6⟩, ⟨af0, af1, af2, af3, af4, af5, af6⟩, al⟩ := block7 (unhide Ka_14)
  obtain ⟨e0, e1, ef0, ef1, el⟩ := block2 (unhide Kf2_14)
  obtain ⟨v0, v1, vf0, vf1, vl⟩ := block2 (unhide Kv_14)
  go_upto_region 33 with fail
  clear n0 n1 n2 n3 n4 n5 n6 nf0 nf1 nf2 nf3 nf4 nf5 nf6 nl p0 p1 p2 p3 p4 p5 p6 pf0 pf1 pf2 pf3 pf4 pf5 pf6 pl a0 a1 a2 a3 a4 a5 a6 af0 af1 af2 af3 af4 af5 af6 al e0 e1 ef0 ef1 el v0 v1 vf0 vf1 vl
  have HX_15 := hide (put7_below (y0 := .bool false) (y1 := .bool r0) (y2 := .bool r1) (y3 := .int .i64 t0) (y4 := .int .i64 t1) (y5 := .int .i64 u0) (y6 := .int .i64 u1) (unhide HX_14) (show w.heap.size ≤ TN by first | omega | (have := unhide HBA; omega)))
  have Kd_15 := hide ((put7_keep (y0 := .bool false) (y1 := .bool r0) (y2 := .bool r1) (y3 := .int .i64 t0) (y4 := .int .i64 t1) (y5 := .int .i64 u0) (y6 := .int .i64 u1) (show w.heap.size ≠ TN by omega)).trans (unhide Kd_14))
  have Kc_15 := hide ((put7_keep (y0 := .bool false) (y1 := .bool r0) (y2 := .bool r1) (y3 := .int .i64 t0) (y4 := .int .i64 t1) (y5 := .int .i64 u0) (y6 := .int .i64 u1) (show TC ≠ TN by omega)).trans (unhide Kc_14))
  have Ka_15 := hide ((put7_keep (y0 := .bool false) (y1 := .bool r0) (y2 := .bool r1) (y3 := .int .i64 t0) (y4 := .int .i64 t1) (y5 := .int .i64 u0) (y6 := .int .i64 u1) (show TA ≠ TN by omega)).trans (unhide Ka_14))
  have Kf1_15 := hide ((put7_keep (y0 := .bool false) (y1 := .bool r0) (y2 := .bool r1) (y3 := .int .i64 t0) (y4 := .int .i64 t1) (y5 := .int .i64 u0) (y6 := .int .i64 u1) (show TA + 1 ≠ TN by omega)).trans (unhide Kf1_14))
  have Kb_15 := hide ((put7_keep (y0 := .bool false) (y1 := .bool r0) (y2 := .bool r1) (y3 := .int .i64 t0) (y4 := .int .i64 t1) (y5 := .int .i64 u0) (y6 := .int .i64 u1) (show TB ≠ TN by omega)).trans (unhide Kb_14))
  have Kf2_15 := hide ((put7_keep (y0 := .bool false) (y1 := .bool r0) (y2 := .bool r1) (y3 := .int .i64 t0) (y4 := .int .i64 t1) (y5 := .int .i64 u0) (y6 := .int .i64 u1) (show TB + 1 ≠ TN by omega)).trans (unhide Kf2_14))
  have Kv_15 := hide ((put7_keep (y0 := .bool false) (y1 := .bool r0) (y2 := .bool r1) (y3 := .int .i64 t0) (y4 := .int .i64 t1) (y5 := .int .i64 u0) (y6 := .int .i64 u1) (show TV ≠ TN by omega)).trans (unhide Kv_14))
  have Kw_15 := hide ((put7_keep (y0 := .bool false) (y1 := .bool r0) (y2 := .bool r1) (y3 := .int .i64 t0) (y4 := .int .i64 t1) (y5 := .int .i64 u0) (y6 := .int .i64 u1) (show TW ≠ TN by omega)).trans (unhide Kw_14))
  have Kn_15 := hide (put7_new (y0 := .bool false) (y1 := .bool r0) (y2 := .bool r1) (y3 := .int .i64 t0) (y4 := .int .i64 t1) (y5 := .int .i64 u0) (y6 := .int .i64 u1) (unhide Kn_14))
  obtain ⟨W10, eW10⟩ : ∃ X, put7 W9 (TN) (.bool false) (.bool r0) (.bool r1) (.int .i64 t0) (.int .i64 t1) (.int .i64 u0) (.int .i64 u1) = X := ⟨_, rfl⟩
  rw [eW10] at HX_15 Kd_15 Kc_15 Ka_15 Kf1_15 Kb_15 Kf2_15 Kv_15 Kw_15 Kn_15
  have eW102 : (((((((W9).setCell ⟨TN, 0, none⟩ (.bool false)).setCell ⟨TN, 1, none⟩ (.bool r0)).setCell ⟨TN, 2, none⟩ (.bool r1)).setCell ⟨TN, 3, none⟩ (.int .i64 t0)).setCell ⟨TN, 4, none⟩ (.int .i64 t1)).setCell ⟨TN, 5, none⟩ (.int .i64 u0)).setCell ⟨TN, 6, none⟩ (.int .i64 u1) = W10 := eW10
  rw [eW102]
  clear eW10 eW102 HX_14 Kd_14 Kc_14 Ka_14 Kf1_14 Kb_14 Kf2_14 Kv_14 Kw_14 Kn_14
  obtain ⟨⟨n0, n1, n2, n3, n4, n5, n6⟩, ⟨nf0, nf1, nf2, nf3, nf4, nf5, nf6⟩, nl⟩ := block7 (unhide Kn_15)
  obtain ⟨⟨p0, p1, p2, p3, p4, p5, p6⟩, ⟨pf0, pf1, pf2, pf3, pf4, pf5, pf6⟩, pl⟩ := block7 (unhide Kd_15)
  obtain ⟨⟨b0, b1, b2, b3, b4, b5, b6⟩, ⟨bf0, bf1, bf2, bf3, bf4, bf5, bf6⟩, bl⟩ := block7 (unhide Kb_15)
  go_wp2_with fail
  go_ret
  exact ⟨rfl, (by repeat (first | with_reducible exact unhide HX_15 | with_reducible refine drew_below ?_ | (with_reducible refine below_set ?_ (by omega) _)))⟩

set_option maxRecDepth 100000 in
set_option maxHeartbeats 4000000 in
theorem waits0_now0_false (w : World) (r0 r1 : Bool) (t0 t1 u0 u1 task now : Int) (hC : descF false r0 r1 t0 t1 u0 u1 = (0, 0)) (h1 : ¬ task < 1) (h2 : now < 0) :
    Calls Try.prog 3 #[.agg #[.bool false, .bool r0, .bool r1, .int .i64 t0, .int .i64 t1, .int .i64 u0, .int .i64 u1], .int .i64 0, .int .i64 task, .int .i64 now] w fun e w' => e = .returned (.bool true) ∧ Below w.heap.size w w' := by
  have HCK : Hid (∀ W, Calls Try.prog 6 #[.agg #[.bool false, .bool r0, .bool r1, .int .i64 t0, .int .i64 t1, .int .i64 u0, .int .i64 u1]] W fun e w' => e = .returned (.agg #[.int .i64 0, .int .i64 0]) ∧ Below W.heap.size W w') := fun W => check_any W false r0 r1 t0 t1 u0 u1 0 0 hC
  have HDF : Hid (∀ W, Calls Try.prog 10 #[.agg #[.bool false, .bool r0, .bool r1, .int .i64 t0, .int .i64 t1, .int .i64 u0, .int .i64 u1]] W fun e w' => e = .returned (.agg #[.int .i64 0, .int .i64 0]) ∧ Below W.heap.size W w') := fun W => descFault_any W false r0 r1 t0 t1 u0 u1 0 0 hC
  have HWF : Hid (∀ W, Calls Try.prog 11 #[.agg #[.bool false, .bool r0, .bool r1, .int .i64 t0, .int .i64 t1, .int .i64 u0, .int .i64 u1], .int .i64 0] W fun e w' => e = .returned (.agg #[.int .i64 0, .int .i64 0]) ∧ Below W.heap.size W w') := fun W => wayFault_any W false r0 r1 t0 t1 u0 u1 0 0 0 0 0 hC (show onF (0, 0) 0 = (0, 0) by decide)
  have HWT : Hid (∀ W, Calls Try.prog 7 #[.agg #[.bool false, .bool r0, .bool r1, .int .i64 t0, .int .i64 t1, .int .i64 u0, .int .i64 u1], .int .i64 0, .int .i64 task, .int .i64 now] W fun e w' => e = .returned (.tuple #[.agg #[.bool false, .bool false, .bool false, .int .i64 0, .int .i64 0, .int .i64 0, .int .i64 0], .int .i64 0, .agg #[.int .i64 3, .int .i64 (-1)]]) ∧ Below W.heap.size W w') := fun W => wait0_fault W false r0 r1 t0 t1 u0 u1 task now 0 0 3 (-1) hC (show waitF (onF (0, 0) 0) t0 t1 task now = (3, (-1)) by rw [show onF (0, 0) 0 = (0, 0) from by decide]; unfold waitF; rw [if_neg (by simp), if_pos (Or.inr (by omega))]) (by decide)
  have HFI : Hid (∀ W, Calls Try.prog 8 #[.agg #[.bool false, .bool r0, .bool r1, .int .i64 t0, .int .i64 t1, .int .i64 u0, .int .i64 u1], .int .i64 0] W fun e w' => e = .returned (.tuple #[.agg #[.bool false, .bool (t0 == 0), .bool r1, .int .i64 0, .int .i64 t1, .int .i64 u0, .int .i64 u1], .int .i64 t0, .agg #[.int .i64 0, .int .i64 0]]) ∧ Below W.heap.size W w') := fun W => fire0_well W false r0 r1 t0 t1 u0 u1 0 0 0 hC (by decide) rfl
  clear hC
  have xi := arr_i; have xb := arr_b
  have xbb : ∀ b : Bool, (b == b) = true := fun b => by cases b <;> rfl
  have xii : ∀ b : Int, (b == b) = true := fun b => by simp
  obtain ⟨W0, e0, hB, k0⟩ := one_new w (.cells #[.bool false, .bool r0, .bool r1, .int .i64 t0, .int .i64 t1, .int .i64 u0, .int .i64 u1] 25)
  have HX := hide hB; have HE := hide e0; have HD := hide k0
  clear hB e0 k0
  go_enter Try.func3, Try.ntmps3
  go_upto_region 1 with fail
  rw [unhide HE]
  clear HE
  obtain ⟨⟨p0, p1, p2, p3, p4, p5, p6⟩, ⟨pf0, pf1, pf2, pf3, pf4, pf5, pf6⟩, pl⟩ := block7 (unhide HD)
  go_upto_region 2 with (go_at_call 6; refine (unhide HCK _).mono ?_; rintro e w1 ⟨rfl, hb1⟩; have HX_1 := hide (Below.next (unhide HX) hb1 (by first | exact Nat.le_refl _ | (have := unhide HBA; omega))); have Kd_1 := hide (keep_below (unhide HD) hb1); clear HX HD; clear hb1 HCK p0 p1 p2 p3 p4 p5 p6 pf0 pf1 pf2 pf3 pf4 pf5 pf6 pl)
  have HX_2 := hide ((unhide HX_1).alloc (Nat.le_trans (show w.heap.size ≤ w.heap.size from Nat.le_refl _) (unhide HX_1).size) (.cells #[.int .i64 0, .int .i64 0] 27))
  have Kd_2 := hide (keep_alloc (unhide Kd_1) (.cells #[.int .i64 0, .int .i64 0] 27))
  have Kc_2 := hide (new_block w1 (.cells #[.int .i64 0, .int .i64 0] 27))
  have hld_c : w.heap.size < w1.heap.size := size_of (unhide Kd_1)
  obtain ⟨TC, eTC⟩ : ∃ X, w1.heap.size = X := ⟨_, rfl⟩
  obtain ⟨W1, eW1⟩ : ∃ X, w1.alloc (.cells #[.int .i64 0, .int .i64 0] 27) = X := ⟨_, rfl⟩
  rw [eTC, eW1] at Kc_2; rw [eW1] at HX_2 Kd_2; rw [eTC] at hld_c; rw [eTC, eW1]
  clear eTC eW1 HX_1 Kd_1
  obtain ⟨⟨p0, p1, p2, p3, p4, p5, p6⟩, ⟨pf0, pf1, pf2, pf3, pf4, pf5, pf6⟩, pl⟩ := block7 (unhide Kd_2)
  go_upto_region 3 with (go_at_call 7; refine (unhide HWT _).mono ?_; rintro e w2 ⟨rfl, hb2⟩; have HX_3 := hide (Below.next (unhide HX_2) hb2 (by first | exact Nat.le_refl _ | (have := unhide HBA; omega))); have Kd_3 := hide (keep_below (unhide Kd_2) hb2); have Kc_3 := hide (keep_below (unhide Kc_2) hb2); clear HX_2 Kd_2 Kc_2; clear hb2 HWT p0 p1 p2 p3 p4 p5 p6 pf0 pf1 pf2 pf3 pf4 pf5 pf6 pl)
  obtain ⟨W2, eW2, hBW2, k0_4, k1_4⟩ := two_new w2 (.cells #[.bool false, .bool false, .bool false, .int .i64 0, .int .i64 0, .int .i64 0, .int .i64 0] 25) (.cells #[.int .i64 3, .int .i64 (-1)] 27)
  rw [eW2]
  clear eW2
  have hld_a : w.heap.size < w2.heap.size := size_of (unhide Kd_3)
  have hlc_a : TC < w2.heap.size := size_of (unhide Kc_3)
  (have HX_4 := hide (Below.next (unhide HX_3) hBW2 (by first | exact Nat.le_refl _ | (have := unhide HBA; omega))); have Kd_4 := hide (keep_below (unhide Kd_3) hBW2); have Kc_4 := hide (keep_below (unhide Kc_3) hBW2); clear HX_3 Kd_3 Kc_3)
  obtain ⟨TA, eTA⟩ : ∃ X, w2.heap.size = X := ⟨_, rfl⟩
  rw [eTA] at k0_4 k1_4 hld_a hlc_a ⊢
  have Ka_4 := hide k0_4
  have Kf1_4 := hide k1_4
  clear eTA hBW2 k0_4 k1_4
  obtain ⟨⟨p0, p1, p2, p3, p4, p5, p6⟩, ⟨pf0, pf1, pf2, pf3, pf4, pf5, pf6⟩, pl⟩ := block7 (unhide Kd_4)
  go_upto_region 4 with (go_at_call 8; refine (unhide HFI _).mono ?_; rintro e w3 ⟨rfl, hb3⟩; have HX_5 := hide (Below.next (unhide HX_4) hb3 (by first | exact Nat.le_refl _ | (have := unhide HBA; omega))); have Kd_5 := hide (keep_below (unhide Kd_4) hb3); have Kc_5 := hide (keep_below (unhide Kc_4) hb3); have Ka_5 := hide (keep_below (unhide Ka_4) hb3); have Kf1_5 := hide (keep_below (unhide Kf1_4) hb3); clear HX_4 Kd_4 Kc_4 Ka_4 Kf1_4; clear hb3 HFI p0 p1 p2 p3 p4 p5 p6 pf0 pf1 pf2 pf3 pf4 pf5 pf6 pl)
  obtain ⟨W3, eW3, hBW3, k0_6, k1_6⟩ := two_new w3 (.cells #[.bool false, .bool (t0 == 0), .bool r1, .int .i64 0, .int .i64 t1, .int .i64 u0, .int .i64 u1] 25) (.cells #[.int .i64 0, .int .i64 0] 27)
  rw [eW3]
  clear eW3
  have hld_b : w.heap.size < w3.heap.size := size_of (unhide Kd_5)
  have hlc_b : TC < w3.heap.size := size_of (unhide Kc_5)
  have hla_b : TA < w3.heap.size := size_of (unhide Ka_5)
  have hlf1_b : TA + 1 < w3.heap.size := size_of (unhide Kf1_5)
  (have HX_6 := hide (Below.next (unhide HX_5) hBW3 (by first | exact Nat.le_refl _ | (have := unhide HBA; omega))); have Kd_6 := hide (keep_below (unhide Kd_5) hBW3); have Kc_6 := hide (keep_below (unhide Kc_5) hBW3); have Ka_6 := hide (keep_below (unhide Ka_5) hBW3); have Kf1_6 := hide (keep_below (unhide Kf1_5) hBW3); clear HX_5 Kd_5 Kc_5 Ka_5 Kf1_5)
  obtain ⟨TB, eTB⟩ : ∃ X, w3.heap.size = X := ⟨_, rfl⟩
  rw [eTB] at k0_6 k1_6 hld_b hlc_b hla_b hlf1_b ⊢
  have Kb_6 := hide k0_6
  have Kf2_6 := hide k1_6
  clear eTB hBW3 k0_6 k1_6
  have HSS : Hid (∀ W, Below W3.heap.size W3 W → (W.cell? ⟨w.heap.size, 0, none⟩ = some (.bool false) ∧ W.cell? ⟨w.heap.size, 1, none⟩ = some (.bool r0) ∧ W.cell? ⟨w.heap.size, 2, none⟩ = some (.bool r1) ∧ W.cell? ⟨w.heap.size, 3, none⟩ = some (.int .i64 t0) ∧ W.cell? ⟨w.heap.size, 4, none⟩ = some (.int .i64 t1) ∧ W.cell? ⟨w.heap.size, 5, none⟩ = some (.int .i64 u0) ∧ W.cell? ⟨w.heap.size, 6, none⟩ = some (.int .i64 u1)) ∧ (W.cell? ⟨TC, 0, none⟩ = some (.int .i64 0) ∧ W.cell? ⟨TC, 1, none⟩ = some (.int .i64 0)) ∧ Below W3.heap.size W3 W) := fun W hW => ⟨(block7 (keep_below (unhide Kd_6) hW)).1, ⟨(block2 (keep_below (unhide Kc_6) hW)).1, (block2 (keep_below (unhide Kc_6) hW)).2.1⟩, hW⟩
  obtain ⟨⟨p0, p1, p2, p3, p4, p5, p6⟩, ⟨q0, q1⟩, -⟩ := unhide HSS _ (Below.refl _ _)
  go_wp2_with fail
  go_region_held3 (fun W => (W.cell? ⟨w.heap.size, 0, none⟩ = some (.bool false) ∧ W.cell? ⟨w.heap.size, 1, none⟩ = some (.bool r0) ∧ W.cell? ⟨w.heap.size, 2, none⟩ = some (.bool r1) ∧ W.cell? ⟨w.heap.size, 3, none⟩ = some (.int .i64 t0) ∧ W.cell? ⟨w.heap.size, 4, none⟩ = some (.int .i64 t1) ∧ W.cell? ⟨w.heap.size, 5, none⟩ = some (.int .i64 u0) ∧ W.cell? ⟨w.heap.size, 6, none⟩ = some (.int .i64 u1)) ∧ (W.cell? ⟨TC, 0, none⟩ = some (.int .i64 0) ∧ W.cell? ⟨TC, 1, none⟩ = some (.int .i64 0)) ∧ Below W3.heap.size W3 W)
    (first | with_reducible exact unhide HSS _ (Below.refl _ _) | with_reducible exact unhide HSS _ (Below.refl _ _).drew | with_reducible exact unhide HSS _ (unhide HY7) | with_reducible exact unhide HSS _ (unhide HY8))
    (first | (go_at_call 9; refine (begun_any _).mono ?_; rintro e w4 ⟨rfl, hb7⟩; have HY7 : Hid (Below W3.heap.size W3 w4) := Below.next (by go_split_ands; assumption) hb7 (Nat.le_refl _); clear hb7) | (go_at_call 10; refine (unhide HDF _).mono ?_; rintro e w5 ⟨rfl, hb8⟩; have HY8 : Hid (Below W3.heap.size W3 w5) := Below.next (by go_split_ands; assumption) hb8 (Nat.le_refl _); clear hb8))
  clear p0 p1 p2 p3 p4 p5 p6 q0 q1 HSS HDF
  (have HX_7 := hide (Below.next (unhide HX_6) (unhide HY8) (by first | exact Nat.le_refl _ | (have := unhide HBA; omega))); have Kd_7 := hide (keep_below (unhide Kd_6) (unhide HY8)); have Kc_7 := hide (keep_below (unhide Kc_6) (unhide HY8)); have Ka_7 := hide (keep_below (unhide Ka_6) (unhide HY8)); have Kf1_7 := hide (keep_below (unhide Kf1_6) (unhide HY8)); have Kb_7 := hide (keep_below (unhide Kb_6) (unhide HY8)); have Kf2_7 := hide (keep_below (unhide Kf2_6) (unhide HY8)); clear HX_6 Kd_6 Kc_6 Ka_6 Kf1_6 Kb_6 Kf2_6)
  clear HY7 HY8
  obtain ⟨⟨p0, p1, p2, p3, p4, p5, p6⟩, ⟨pf0, pf1, pf2, pf3, pf4, pf5, pf6⟩, pl⟩ := block7 (unhide Kd_7)
  go_upto_region 7 with (go_at_call 11; refine (unhide HWF _).mono ?_; rintro e w6 ⟨rfl, hb6⟩; have HX_8 := hide (Below.next (unhide HX_7) hb6 (by first | exact Nat.le_refl _ | (have := unhide HBA; omega))); have Kd_8 := hide (keep_below (unhide Kd_7) hb6); have Kc_8 := hide (keep_below (unhide Kc_7) hb6); have Ka_8 := hide (keep_below (unhide Ka_7) hb6); have Kf1_8 := hide (keep_below (unhide Kf1_7) hb6); have Kb_8 := hide (keep_below (unhide Kb_7) hb6); have Kf2_8 := hide (keep_below (unhide Kf2_7) hb6); clear HX_7 Kd_7 Kc_7 Ka_7 Kf1_7 Kb_7 Kf2_7; clear hb6 HWF p0 p1 p2 p3 p4 p5 p6 pf0 pf1 pf2 pf3 pf4 pf5 pf6 pl)
  have HX_9 := hide ((unhide HX_8).alloc (Nat.le_trans (show w.heap.size ≤ w.heap.size from Nat.le_refl _) (unhide HX_8).size) (.cells #[.int .i64 0, .int .i64 0] 27))
  have Kd_9 := hide (keep_alloc (unhide Kd_8) (.cells #[.int .i64 0, .int .i64 0] 27))
  have Kc_9 := hide (keep_alloc (unhide Kc_8) (.cells #[.int .i64 0, .int .i64 0] 27))
  have Ka_9 := hide (keep_alloc (unhide Ka_8) (.cells #[.int .i64 0, .int .i64 0] 27))
  have Kf1_9 := hide (keep_alloc (unhide Kf1_8) (.cells #[.int .i64 0, .int .i64 0] 27))
  have Kb_9 := hide (keep_alloc (unhide Kb_8) (.cells #[.int .i64 0, .int .i64 0] 27))
  have Kf2_9 := hide (keep_alloc (unhide Kf2_8) (.cells #[.int .i64 0, .int .i64 0] 27))
  have Kv_9 := hide (new_block w6 (.cells #[.int .i64 0, .int .i64 0] 27))
  have hld_v : w.heap.size < w6.heap.size := size_of (unhide Kd_8)
  have hlc_v : TC < w6.heap.size := size_of (unhide Kc_8)
  have hla_v : TA < w6.heap.size := size_of (unhide Ka_8)
  have hlf1_v : TA + 1 < w6.heap.size := size_of (unhide Kf1_8)
  have hlb_v : TB < w6.heap.size := size_of (unhide Kb_8)
  have hlf2_v : TB + 1 < w6.heap.size := size_of (unhide Kf2_8)
  obtain ⟨TV, eTV⟩ : ∃ X, w6.heap.size = X := ⟨_, rfl⟩
  obtain ⟨W5, eW5⟩ : ∃ X, w6.alloc (.cells #[.int .i64 0, .int .i64 0] 27) = X := ⟨_, rfl⟩
  rw [eTV, eW5] at Kv_9; rw [eW5] at HX_9 Kd_9 Kc_9 Ka_9 Kf1_9 Kb_9 Kf2_9; rw [eTV] at hld_v hlc_v hla_v hlf1_v hlb_v hlf2_v; rw [eTV, eW5]
  clear eTV eW5 HX_8 Kd_8 Kc_8 Ka_8 Kf1_8 Kb_8 Kf2_8
  obtain ⟨v0, v1, vf0, vf1, vl⟩ := block2 (unhide Kv_9)
  go_upto_region 8 with fail
  clear v0 v1 vf0 vf1 vl
  have HX_10 := hide ((unhide HX_9).alloc (Nat.le_trans (show w.heap.size ≤ w.heap.size from Nat.le_refl _) (unhide HX_9).size) (.cells #[.int .i64 0, .int .i64 0] 27))
  have Kd_10 := hide (keep_alloc (unhide Kd_9) (.cells #[.int .i64 0, .int .i64 0] 27))
  have Kc_10 := hide (keep_alloc (unhide Kc_9) (.cells #[.int .i64 0, .int .i64 0] 27))
  have Ka_10 := hide (keep_alloc (unhide Ka_9) (.cells #[.int .i64 0, .int .i64 0] 27))
  have Kf1_10 := hide (keep_alloc (unhide Kf1_9) (.cells #[.int .i64 0, .int .i64 0] 27))
  have Kb_10 := hide (keep_alloc (unhide Kb_9) (.cells #[.int .i64 0, .int .i64 0] 27))
  have Kf2_10 := hide (keep_alloc (unhide Kf2_9) (.cells #[.int .i64 0, .int .i64 0] 27))
  have Kv_10 := hide (keep_alloc (unhide Kv_9) (.cells #[.int .i64 0, .int .i64 0] 27))
  have Kw_10 := hide (new_block W5 (.cells #[.int .i64 0, .int .i64 0] 27))
  have hld_w : w.heap.size < W5.heap.size := size_of (unhide Kd_9)
  have hlc_w : TC < W5.heap.size := size_of (unhide Kc_9)
  have hla_w : TA < W5.heap.size := size_of (unhide Ka_9)
  have hlf1_w : TA + 1 < W5.heap.size := size_of (unhide Kf1_9)
  have hlb_w : TB < W5.heap.size := size_of (unhide Kb_9)
  have hlf2_w : TB + 1 < W5.heap.size := size_of (unhide Kf2_9)
  have hlv_w : TV < W5.heap.size := size_of (unhide Kv_9)
  obtain ⟨TW, eTW⟩ : ∃ X, W5.heap.size = X := ⟨_, rfl⟩
  obtain ⟨W6, eW6⟩ : ∃ X, W5.alloc (.cells #[.int .i64 0, .int .i64 0] 27) = X := ⟨_, rfl⟩
  rw [eTW, eW6] at Kw_10; rw [eW6] at HX_10 Kd_10 Kc_10 Ka_10 Kf1_10 Kb_10 Kf2_10 Kv_10; rw [eTW] at hld_w hlc_w hla_w hlf1_w hlb_w hlf2_w hlv_w; rw [eTW, eW6]
  clear eTW eW6 HX_9 Kd_9 Kc_9 Ka_9 Kf1_9 Kb_9 Kf2_9 Kv_9
  obtain ⟨x0, x1, xf0, xf1, xl⟩ := block2 (unhide Kw_10)
  obtain ⟨⟨p0, p1, p2, p3, p4, p5, p6⟩, ⟨pf0, pf1, pf2, pf3, pf4, pf5, pf6⟩, pl⟩ := block7 (unhide Kd_10)
  go_upto_region 10 with (go_at_call 12; refine (f_any _ _ _).mono ?_; rintro e w7 ⟨rfl, hb7⟩; have HX_11 := hide (Below.next (unhide HX_10) hb7 (by first | exact Nat.le_refl _ | (have := unhide HBA; omega))); have Kd_11 := hide (keep_below (unhide Kd_10) hb7); have Kc_11 := hide (keep_below (unhide Kc_10) hb7); have Ka_11 := hide (keep_below (unhide Ka_10) hb7); have Kf1_11 := hide (keep_below (unhide Kf1_10) hb7); have Kb_11 := hide (keep_below (unhide Kb_10) hb7); have Kf2_11 := hide (keep_below (unhide Kf2_10) hb7); have Kv_11 := hide (keep_below (unhide Kv_10) hb7); have Kw_11 := hide (keep_below (unhide Kw_10) hb7); clear HX_10 Kd_10 Kc_10 Ka_10 Kf1_10 Kb_10 Kf2_10 Kv_10 Kw_10; clear hb7 p0 p1 p2 p3 p4 p5 p6 pf0 pf1 pf2 pf3 pf4 pf5 pf6 pl x0 x1 xf0 xf1 xl; obtain ⟨x0, x1, xf0, xf1, xl⟩ := block2 (unhide Kw_11))
  clear x0 x1 xf0 xf1 xl
  have HX_12 := hide (put2_below (y0 := .int .i64 3) (y1 := .int .i64 (-1)) (unhide HX_11) (show w.heap.size ≤ TW by first | omega | (have := unhide HBA; omega)))
  have Kd_12 := hide ((put2_keep (y0 := .int .i64 3) (y1 := .int .i64 (-1)) (show w.heap.size ≠ TW by omega)).trans (unhide Kd_11))
  have Kc_12 := hide ((put2_keep (y0 := .int .i64 3) (y1 := .int .i64 (-1)) (show TC ≠ TW by omega)).trans (unhide Kc_11))
  have Ka_12 := hide ((put2_keep (y0 := .int .i64 3) (y1 := .int .i64 (-1)) (show TA ≠ TW by omega)).trans (unhide Ka_11))
  have Kf1_12 := hide ((put2_keep (y0 := .int .i64 3) (y1 := .int .i64 (-1)) (show TA + 1 ≠ TW by omega)).trans (unhide Kf1_11))
  have Kb_12 := hide ((put2_keep (y0 := .int .i64 3) (y1 := .int .i64 (-1)) (show TB ≠ TW by omega)).trans (unhide Kb_11))
  have Kf2_12 := hide ((put2_keep (y0 := .int .i64 3) (y1 := .int .i64 (-1)) (show TB + 1 ≠ TW by omega)).trans (unhide Kf2_11))
  have Kv_12 := hide ((put2_keep (y0 := .int .i64 3) (y1 := .int .i64 (-1)) (show TV ≠ TW by omega)).trans (unhide Kv_11))
  have Kw_12 := hide (put2_new (y0 := .int .i64 3) (y1 := .int .i64 (-1)) (unhide Kw_11))
  obtain ⟨W7, eW7⟩ : ∃ X, put2 w7 (TW) (.int .i64 3) (.int .i64 (-1)) = X := ⟨_, rfl⟩
  rw [eW7] at HX_12 Kd_12 Kc_12 Ka_12 Kf1_12 Kb_12 Kf2_12 Kv_12 Kw_12
  have eW72 : ((w7).setCell ⟨TW, 0, none⟩ (.int .i64 3)).setCell ⟨TW, 1, none⟩ (.int .i64 (-1)) = W7 := eW7
  rw [eW72]
  clear eW7 eW72 HX_11 Kd_11 Kc_11 Ka_11 Kf1_11 Kb_11 Kf2_11 Kv_11 Kw_11
  obtain ⟨x0, x1, xf0, xf1, xl⟩ := block2 (unhide Kw_12)
  obtain ⟨⟨p0, p1, p2, p3, p4, p5, p6⟩, ⟨pf0, pf1, pf2, pf3, pf4, pf5, pf6⟩, pl⟩ := block7 (unhide Kd_12)
  obtain ⟨e0, e1, ef0, ef1, el⟩ := block2 (unhide Kf1_12)
  go_upto_region 17 with fail
  clear x0 x1 xf0 xf1 xl p0 p1 p2 p3 p4 p5 p6 pf0 pf1 pf2 pf3 pf4 pf5 pf6 pl e0 e1 ef0 ef1 el
  have HX_13 := hide ((unhide HX_12).alloc (Nat.le_trans (show w.heap.size ≤ w.heap.size from Nat.le_refl _) (unhide HX_12).size) (.cells #[.bool false, .bool r0, .bool r1, .int .i64 t0, .int .i64 t1, .int .i64 u0, .int .i64 u1] 25))
  have Kd_13 := hide (keep_alloc (unhide Kd_12) (.cells #[.bool false, .bool r0, .bool r1, .int .i64 t0, .int .i64 t1, .int .i64 u0, .int .i64 u1] 25))
  have Kc_13 := hide (keep_alloc (unhide Kc_12) (.cells #[.bool false, .bool r0, .bool r1, .int .i64 t0, .int .i64 t1, .int .i64 u0, .int .i64 u1] 25))
  have Ka_13 := hide (keep_alloc (unhide Ka_12) (.cells #[.bool false, .bool r0, .bool r1, .int .i64 t0, .int .i64 t1, .int .i64 u0, .int .i64 u1] 25))
  have Kf1_13 := hide (keep_alloc (unhide Kf1_12) (.cells #[.bool false, .bool r0, .bool r1, .int .i64 t0, .int .i64 t1, .int .i64 u0, .int .i64 u1] 25))
  have Kb_13 := hide (keep_alloc (unhide Kb_12) (.cells #[.bool false, .bool r0, .bool r1, .int .i64 t0, .int .i64 t1, .int .i64 u0, .int .i64 u1] 25))
  have Kf2_13 := hide (keep_alloc (unhide Kf2_12) (.cells #[.bool false, .bool r0, .bool r1, .int .i64 t0, .int .i64 t1, .int .i64 u0, .int .i64 u1] 25))
  have Kv_13 := hide (keep_alloc (unhide Kv_12) (.cells #[.bool false, .bool r0, .bool r1, .int .i64 t0, .int .i64 t1, .int .i64 u0, .int .i64 u1] 25))
  have Kw_13 := hide (keep_alloc (unhide Kw_12) (.cells #[.bool false, .bool r0, .bool r1, .int .i64 t0, .int .i64 t1, .int .i64 u0, .int .i64 u1] 25))
  have Kn_13 := hide (new_block W7 (.cells #[.bool false, .bool r0, .bool r1, .int .i64 t0, .int .i64 t1, .int .i64 u0, .int .i64 u1] 25))
  have hld_n : w.heap.size < W7.heap.size := size_of (unhide Kd_12)
  have hlc_n : TC < W7.heap.size := size_of (unhide Kc_12)
  have hla_n : TA < W7.heap.size := size_of (unhide Ka_12)
  have hlf1_n : TA + 1 < W7.heap.size := size_of (unhide Kf1_12)
  have hlb_n : TB < W7.heap.size := size_of (unhide Kb_12)
  have hlf2_n : TB + 1 < W7.heap.size := size_of (unhide Kf2_12)
  have hlv_n : TV < W7.heap.size := size_of (unhide Kv_12)
  have hlw_n : TW < W7.heap.size := size_of (unhide Kw_12)
  obtain ⟨TN, eTN⟩ : ∃ X, W7.heap.size = X := ⟨_, rfl⟩
  obtain ⟨W8, eW8⟩ : ∃ X, W7.alloc (.cells #[.bool false, .bool r0, .bool r1, .int .i64 t0, .int .i64 t1, .int .i64 u0, .int .i64 u1] 25) = X := ⟨_, rfl⟩
  rw [eTN, eW8] at Kn_13; rw [eW8] at HX_13 Kd_13 Kc_13 Ka_13 Kf1_13 Kb_13 Kf2_13 Kv_13 Kw_13; rw [eTN] at hld_n hlc_n hla_n hlf1_n hlb_n hlf2_n hlv_n hlw_n; rw [eTN, eW8]
  clear eTN eW8 HX_12 Kd_12 Kc_12 Ka_12 Kf1_12 Kb_12 Kf2_12 Kv_12 Kw_12
  obtain ⟨⟨n0, n1, n2, n3, n4, n5, n6⟩, ⟨nf0, nf1, nf2, nf3, nf4, nf5, nf6⟩, nl⟩ := block7 (unhide Kn_13)
  obtain ⟨x0, x1, xf0, xf1, xl⟩ := block2 (unhide Kw_13)
  obtain ⟨⟨p0, p1, p2, p3, p4, p5, p6⟩, ⟨pf0, pf1, pf2, pf3, pf4, pf5, pf6⟩, pl⟩ := block7 (unhide Kd_13)
  obtain ⟨⟨a0, a1, a2, a3, a4, a5, a6⟩, ⟨af0, af1, af2, af3, af4, af5, af6⟩, al⟩ := block7 (unhide Ka_13)
  obtain ⟨⟨b0, b1, b2, b3, b4, b5, b6⟩, ⟨bf0, bf1, bf2, bf3, bf4, bf5, bf6⟩, bl⟩ := block7 (unhide Kb_13)
  obtain ⟨e0, e1, ef0, ef1, el⟩ := block2 (unhide Kf2_13)
  obtain ⟨v0, v1, vf0, vf1, vl⟩ := block2 (unhide Kv_13)
  have ned : w.heap.size ≠ TN := Nat.ne_of_lt hld_n
  have nfd : TN ≠ w.heap.size := Nat.ne_of_gt hld_n
  have nea : TA ≠ TN := Nat.ne_of_lt hla_n
  have nfa : TN ≠ TA := Nat.ne_of_gt hla_n
  have neb : TB ≠ TN := Nat.ne_of_lt hlb_n
  have nfb : TN ≠ TB := Nat.ne_of_gt hlb_n
  have nef2 : TB + 1 ≠ TN := Nat.ne_of_lt hlf2_n
  have nff2 : TN ≠ TB + 1 := Nat.ne_of_gt hlf2_n
  have nev : TV ≠ TN := Nat.ne_of_lt hlv_n
  have nfv : TN ≠ TV := Nat.ne_of_gt hlv_n
  have new : TW ≠ TN := Nat.ne_of_lt hlw_n
  have nfw : TN ≠ TW := Nat.ne_of_gt hlw_n
  go_upto_region 28 with fail
  clear n0 n1 n2 n3 n4 n5 n6 nf0 nf1 nf2 nf3 nf4 nf5 nf6 nl x0 x1 xf0 xf1 xl p0 p1 p2 p3 p4 p5 p6 pf0 pf1 pf2 pf3 pf4 pf5 pf6 pl a0 a1 a2 a3 a4 a5 a6 af0 af1 af2 af3 af4 af5 af6 al b0 b1 b2 b3 b4 b5 b6 bf0 bf1 bf2 bf3 bf4 bf5 bf6 bl e0 e1 ef0 ef1 el v0 v1 vf0 vf1 vl
  have HX_14 := hide (put7_below (y0 := .bool false) (y1 := .bool false) (y2 := .bool false) (y3 := .int .i64 0) (y4 := .int .i64 0) (y5 := .int .i64 0) (y6 := .int .i64 0) (unhide HX_13) (show w.heap.size ≤ TN by first | omega | (have := unhide HBA; omega)))
  have Kd_14 := hide ((put7_keep (y0 := .bool false) (y1 := .bool false) (y2 := .bool false) (y3 := .int .i64 0) (y4 := .int .i64 0) (y5 := .int .i64 0) (y6 := .int .i64 0) (show w.heap.size ≠ TN by omega)).trans (unhide Kd_13))
  have Kc_14 := hide ((put7_keep (y0 := .bool false) (y1 := .bool false) (y2 := .bool false) (y3 := .int .i64 0) (y4 := .int .i64 0) (y5 := .int .i64 0) (y6 := .int .i64 0) (show TC ≠ TN by omega)).trans (unhide Kc_13))
  have Ka_14 := hide ((put7_keep (y0 := .bool false) (y1 := .bool false) (y2 := .bool false) (y3 := .int .i64 0) (y4 := .int .i64 0) (y5 := .int .i64 0) (y6 := .int .i64 0) (show TA ≠ TN by omega)).trans (unhide Ka_13))
  have Kf1_14 := hide ((put7_keep (y0 := .bool false) (y1 := .bool false) (y2 := .bool false) (y3 := .int .i64 0) (y4 := .int .i64 0) (y5 := .int .i64 0) (y6 := .int .i64 0) (show TA + 1 ≠ TN by omega)).trans (unhide Kf1_13))
  have Kb_14 := hide ((put7_keep (y0 := .bool false) (y1 := .bool false) (y2 := .bool false) (y3 := .int .i64 0) (y4 := .int .i64 0) (y5 := .int .i64 0) (y6 := .int .i64 0) (show TB ≠ TN by omega)).trans (unhide Kb_13))
  have Kf2_14 := hide ((put7_keep (y0 := .bool false) (y1 := .bool false) (y2 := .bool false) (y3 := .int .i64 0) (y4 := .int .i64 0) (y5 := .int .i64 0) (y6 := .int .i64 0) (show TB + 1 ≠ TN by omega)).trans (unhide Kf2_13))
  have Kv_14 := hide ((put7_keep (y0 := .bool false) (y1 := .bool false) (y2 := .bool false) (y3 := .int .i64 0) (y4 := .int .i64 0) (y5 := .int .i64 0) (y6 := .int .i64 0) (show TV ≠ TN by omega)).trans (unhide Kv_13))
  have Kw_14 := hide ((put7_keep (y0 := .bool false) (y1 := .bool false) (y2 := .bool false) (y3 := .int .i64 0) (y4 := .int .i64 0) (y5 := .int .i64 0) (y6 := .int .i64 0) (show TW ≠ TN by omega)).trans (unhide Kw_13))
  have Kn_14 := hide (put7_new (y0 := .bool false) (y1 := .bool false) (y2 := .bool false) (y3 := .int .i64 0) (y4 := .int .i64 0) (y5 := .int .i64 0) (y6 := .int .i64 0) (unhide Kn_13))
  obtain ⟨W9, eW9⟩ : ∃ X, put7 W8 (TN) (.bool false) (.bool false) (.bool false) (.int .i64 0) (.int .i64 0) (.int .i64 0) (.int .i64 0) = X := ⟨_, rfl⟩
  rw [eW9] at HX_14 Kd_14 Kc_14 Ka_14 Kf1_14 Kb_14 Kf2_14 Kv_14 Kw_14 Kn_14
  have eW92 : (((((((W8).setCell ⟨TN, 0, none⟩ (.bool false)).setCell ⟨TN, 1, none⟩ (.bool false)).setCell ⟨TN, 2, none⟩ (.bool false)).setCell ⟨TN, 3, none⟩ (.int .i64 0)).setCell ⟨TN, 4, none⟩ (.int .i64 0)).setCell ⟨TN, 5, none⟩ (.int .i64 0)).setCell ⟨TN, 6, none⟩ (.int .i64 0) = W9 := eW9
  rw [eW92]
  clear eW9 eW92 HX_13 Kd_13 Kc_13 Ka_13 Kf1_13 Kb_13 Kf2_13 Kv_13 Kw_13 Kn_13
  obtain ⟨⟨n0, n1, n2, n3, n4, n5, n6⟩, ⟨nf0, nf1, nf2, nf3, nf4, nf5, nf6⟩, nl⟩ := block7 (unhide Kn_14)
  obtain ⟨⟨p0, p1, p2, p3, p4, p5, p6⟩, ⟨pf0, pf1, pf2, pf3, pf4, pf5, pf6⟩, pl⟩ := block7 (unhide Kd_14)
  obtain ⟨⟨a0, a1, a2, a3, a4, a5, a6⟩, ⟨af0, af1, af2, af3, af4, af5, af6⟩, al⟩ := block7 (unhide Ka_14)
  obtain ⟨e0, e1, ef0, ef1, el⟩ := block2 (unhide Kf2_14)
  obtain ⟨v0, v1, vf0, vf1, vl⟩ := block2 (unhide Kv_14)
  go_upto_region 33 with fail
  clear n0 n1 n2 n3 n4 n5 n6 nf0 nf1 nf2 nf3 nf4 nf5 nf6 nl p0 p1 p2 p3 p4 p5 p6 pf0 pf1 pf2 pf3 pf4 pf5 pf6 pl a0 a1 a2 a3 a4 a5 a6 af0 af1 af2 af3 af4 af5 af6 al e0 e1 ef0 ef1 el v0 v1 vf0 vf1 vl
  have HX_15 := hide (put7_below (y0 := .bool false) (y1 := .bool r0) (y2 := .bool r1) (y3 := .int .i64 t0) (y4 := .int .i64 t1) (y5 := .int .i64 u0) (y6 := .int .i64 u1) (unhide HX_14) (show w.heap.size ≤ TN by first | omega | (have := unhide HBA; omega)))
  have Kd_15 := hide ((put7_keep (y0 := .bool false) (y1 := .bool r0) (y2 := .bool r1) (y3 := .int .i64 t0) (y4 := .int .i64 t1) (y5 := .int .i64 u0) (y6 := .int .i64 u1) (show w.heap.size ≠ TN by omega)).trans (unhide Kd_14))
  have Kc_15 := hide ((put7_keep (y0 := .bool false) (y1 := .bool r0) (y2 := .bool r1) (y3 := .int .i64 t0) (y4 := .int .i64 t1) (y5 := .int .i64 u0) (y6 := .int .i64 u1) (show TC ≠ TN by omega)).trans (unhide Kc_14))
  have Ka_15 := hide ((put7_keep (y0 := .bool false) (y1 := .bool r0) (y2 := .bool r1) (y3 := .int .i64 t0) (y4 := .int .i64 t1) (y5 := .int .i64 u0) (y6 := .int .i64 u1) (show TA ≠ TN by omega)).trans (unhide Ka_14))
  have Kf1_15 := hide ((put7_keep (y0 := .bool false) (y1 := .bool r0) (y2 := .bool r1) (y3 := .int .i64 t0) (y4 := .int .i64 t1) (y5 := .int .i64 u0) (y6 := .int .i64 u1) (show TA + 1 ≠ TN by omega)).trans (unhide Kf1_14))
  have Kb_15 := hide ((put7_keep (y0 := .bool false) (y1 := .bool r0) (y2 := .bool r1) (y3 := .int .i64 t0) (y4 := .int .i64 t1) (y5 := .int .i64 u0) (y6 := .int .i64 u1) (show TB ≠ TN by omega)).trans (unhide Kb_14))
  have Kf2_15 := hide ((put7_keep (y0 := .bool false) (y1 := .bool r0) (y2 := .bool r1) (y3 := .int .i64 t0) (y4 := .int .i64 t1) (y5 := .int .i64 u0) (y6 := .int .i64 u1) (show TB + 1 ≠ TN by omega)).trans (unhide Kf2_14))
  have Kv_15 := hide ((put7_keep (y0 := .bool false) (y1 := .bool r0) (y2 := .bool r1) (y3 := .int .i64 t0) (y4 := .int .i64 t1) (y5 := .int .i64 u0) (y6 := .int .i64 u1) (show TV ≠ TN by omega)).trans (unhide Kv_14))
  have Kw_15 := hide ((put7_keep (y0 := .bool false) (y1 := .bool r0) (y2 := .bool r1) (y3 := .int .i64 t0) (y4 := .int .i64 t1) (y5 := .int .i64 u0) (y6 := .int .i64 u1) (show TW ≠ TN by omega)).trans (unhide Kw_14))
  have Kn_15 := hide (put7_new (y0 := .bool false) (y1 := .bool r0) (y2 := .bool r1) (y3 := .int .i64 t0) (y4 := .int .i64 t1) (y5 := .int .i64 u0) (y6 := .int .i64 u1) (unhide Kn_14))
  obtain ⟨W10, eW10⟩ : ∃ X, put7 W9 (TN) (.bool false) (.bool r0) (.bool r1) (.int .i64 t0) (.int .i64 t1) (.int .i64 u0) (.int .i64 u1) = X := ⟨_, rfl⟩
  rw [eW10] at HX_15 Kd_15 Kc_15 Ka_15 Kf1_15 Kb_15 Kf2_15 Kv_15 Kw_15 Kn_15
  have eW102 : (((((((W9).setCell ⟨TN, 0, none⟩ (.bool false)).setCell ⟨TN, 1, none⟩ (.bool r0)).setCell ⟨TN, 2, none⟩ (.bool r1)).setCell ⟨TN, 3, none⟩ (.int .i64 t0)).setCell ⟨TN, 4, none⟩ (.int .i64 t1)).setCell ⟨TN, 5, none⟩ (.int .i64 u0)).setCell ⟨TN, 6, none⟩ (.int .i64 u1) = W10 := eW10
  rw [eW102]
  clear eW10 eW102 HX_14 Kd_14 Kc_14 Ka_14 Kf1_14 Kb_14 Kf2_14 Kv_14 Kw_14 Kn_14
  obtain ⟨⟨n0, n1, n2, n3, n4, n5, n6⟩, ⟨nf0, nf1, nf2, nf3, nf4, nf5, nf6⟩, nl⟩ := block7 (unhide Kn_15)
  obtain ⟨⟨p0, p1, p2, p3, p4, p5, p6⟩, ⟨pf0, pf1, pf2, pf3, pf4, pf5, pf6⟩, pl⟩ := block7 (unhide Kd_15)
  obtain ⟨⟨b0, b1, b2, b3, b4, b5, b6⟩, ⟨bf0, bf1, bf2, bf3, bf4, bf5, bf6⟩, bl⟩ := block7 (unhide Kb_15)
  go_wp2_with fail
  go_ret
  exact ⟨rfl, (by repeat (first | with_reducible exact unhide HX_15 | with_reducible refine drew_below ?_ | (with_reducible refine below_set ?_ (by omega) _)))⟩

set_option maxRecDepth 100000 in
set_option maxHeartbeats 4000000 in
theorem waits0_now9_false (w : World) (r0 r1 : Bool) (t0 t1 u0 u1 task now : Int) (hC : descF false r0 r1 t0 t1 u0 u1 = (0, 0)) (h1 : ¬ task < 1) (h2 : ¬ now < 0) (h3 : 1000000000 < now) :
    Calls Try.prog 3 #[.agg #[.bool false, .bool r0, .bool r1, .int .i64 t0, .int .i64 t1, .int .i64 u0, .int .i64 u1], .int .i64 0, .int .i64 task, .int .i64 now] w fun e w' => e = .returned (.bool true) ∧ Below w.heap.size w w' := by
  have HCK : Hid (∀ W, Calls Try.prog 6 #[.agg #[.bool false, .bool r0, .bool r1, .int .i64 t0, .int .i64 t1, .int .i64 u0, .int .i64 u1]] W fun e w' => e = .returned (.agg #[.int .i64 0, .int .i64 0]) ∧ Below W.heap.size W w') := fun W => check_any W false r0 r1 t0 t1 u0 u1 0 0 hC
  have HDF : Hid (∀ W, Calls Try.prog 10 #[.agg #[.bool false, .bool r0, .bool r1, .int .i64 t0, .int .i64 t1, .int .i64 u0, .int .i64 u1]] W fun e w' => e = .returned (.agg #[.int .i64 0, .int .i64 0]) ∧ Below W.heap.size W w') := fun W => descFault_any W false r0 r1 t0 t1 u0 u1 0 0 hC
  have HWF : Hid (∀ W, Calls Try.prog 11 #[.agg #[.bool false, .bool r0, .bool r1, .int .i64 t0, .int .i64 t1, .int .i64 u0, .int .i64 u1], .int .i64 0] W fun e w' => e = .returned (.agg #[.int .i64 0, .int .i64 0]) ∧ Below W.heap.size W w') := fun W => wayFault_any W false r0 r1 t0 t1 u0 u1 0 0 0 0 0 hC (show onF (0, 0) 0 = (0, 0) by decide)
  have HWT : Hid (∀ W, Calls Try.prog 7 #[.agg #[.bool false, .bool r0, .bool r1, .int .i64 t0, .int .i64 t1, .int .i64 u0, .int .i64 u1], .int .i64 0, .int .i64 task, .int .i64 now] W fun e w' => e = .returned (.tuple #[.agg #[.bool false, .bool false, .bool false, .int .i64 0, .int .i64 0, .int .i64 0, .int .i64 0], .int .i64 0, .agg #[.int .i64 3, .int .i64 (-1)]]) ∧ Below W.heap.size W w') := fun W => wait0_fault W false r0 r1 t0 t1 u0 u1 task now 0 0 3 (-1) hC (show waitF (onF (0, 0) 0) t0 t1 task now = (3, (-1)) by rw [show onF (0, 0) 0 = (0, 0) from by decide]; unfold waitF; rw [if_neg (by simp), if_pos (Or.inr (by omega))]) (by decide)
  have HFI : Hid (∀ W, Calls Try.prog 8 #[.agg #[.bool false, .bool r0, .bool r1, .int .i64 t0, .int .i64 t1, .int .i64 u0, .int .i64 u1], .int .i64 0] W fun e w' => e = .returned (.tuple #[.agg #[.bool false, .bool (t0 == 0), .bool r1, .int .i64 0, .int .i64 t1, .int .i64 u0, .int .i64 u1], .int .i64 t0, .agg #[.int .i64 0, .int .i64 0]]) ∧ Below W.heap.size W w') := fun W => fire0_well W false r0 r1 t0 t1 u0 u1 0 0 0 hC (by decide) rfl
  clear hC
  have xi := arr_i; have xb := arr_b
  have xbb : ∀ b : Bool, (b == b) = true := fun b => by cases b <;> rfl
  have xii : ∀ b : Int, (b == b) = true := fun b => by simp
  obtain ⟨W0, e0, hB, k0⟩ := one_new w (.cells #[.bool false, .bool r0, .bool r1, .int .i64 t0, .int .i64 t1, .int .i64 u0, .int .i64 u1] 25)
  have HX := hide hB; have HE := hide e0; have HD := hide k0
  clear hB e0 k0
  go_enter Try.func3, Try.ntmps3
  go_upto_region 1 with fail
  rw [unhide HE]
  clear HE
  obtain ⟨⟨p0, p1, p2, p3, p4, p5, p6⟩, ⟨pf0, pf1, pf2, pf3, pf4, pf5, pf6⟩, pl⟩ := block7 (unhide HD)
  go_upto_region 2 with (go_at_call 6; refine (unhide HCK _).mono ?_; rintro e w1 ⟨rfl, hb1⟩; have HX_1 := hide (Below.next (unhide HX) hb1 (by first | exact Nat.le_refl _ | (have := unhide HBA; omega))); have Kd_1 := hide (keep_below (unhide HD) hb1); clear HX HD; clear hb1 HCK p0 p1 p2 p3 p4 p5 p6 pf0 pf1 pf2 pf3 pf4 pf5 pf6 pl)
  have HX_2 := hide ((unhide HX_1).alloc (Nat.le_trans (show w.heap.size ≤ w.heap.size from Nat.le_refl _) (unhide HX_1).size) (.cells #[.int .i64 0, .int .i64 0] 27))
  have Kd_2 := hide (keep_alloc (unhide Kd_1) (.cells #[.int .i64 0, .int .i64 0] 27))
  have Kc_2 := hide (new_block w1 (.cells #[.int .i64 0, .int .i64 0] 27))
  have hld_c : w.heap.size < w1.heap.size := size_of (unhide Kd_1)
  obtain ⟨TC, eTC⟩ : ∃ X, w1.heap.size = X := ⟨_, rfl⟩
  obtain ⟨W1, eW1⟩ : ∃ X, w1.alloc (.cells #[.int .i64 0, .int .i64 0] 27) = X := ⟨_, rfl⟩
  rw [eTC, eW1] at Kc_2; rw [eW1] at HX_2 Kd_2; rw [eTC] at hld_c; rw [eTC, eW1]
  clear eTC eW1 HX_1 Kd_1
  obtain ⟨⟨p0, p1, p2, p3, p4, p5, p6⟩, ⟨pf0, pf1, pf2, pf3, pf4, pf5, pf6⟩, pl⟩ := block7 (unhide Kd_2)
  go_upto_region 3 with (go_at_call 7; refine (unhide HWT _).mono ?_; rintro e w2 ⟨rfl, hb2⟩; have HX_3 := hide (Below.next (unhide HX_2) hb2 (by first | exact Nat.le_refl _ | (have := unhide HBA; omega))); have Kd_3 := hide (keep_below (unhide Kd_2) hb2); have Kc_3 := hide (keep_below (unhide Kc_2) hb2); clear HX_2 Kd_2 Kc_2; clear hb2 HWT p0 p1 p2 p3 p4 p5 p6 pf0 pf1 pf2 pf3 pf4 pf5 pf6 pl)
  obtain ⟨W2, eW2, hBW2, k0_4, k1_4⟩ := two_new w2 (.cells #[.bool false, .bool false, .bool false, .int .i64 0, .int .i64 0, .int .i64 0, .int .i64 0] 25) (.cells #[.int .i64 3, .int .i64 (-1)] 27)
  rw [eW2]
  clear eW2
  have hld_a : w.heap.size < w2.heap.size := size_of (unhide Kd_3)
  have hlc_a : TC < w2.heap.size := size_of (unhide Kc_3)
  (have HX_4 := hide (Below.next (unhide HX_3) hBW2 (by first | exact Nat.le_refl _ | (have := unhide HBA; omega))); have Kd_4 := hide (keep_below (unhide Kd_3) hBW2); have Kc_4 := hide (keep_below (unhide Kc_3) hBW2); clear HX_3 Kd_3 Kc_3)
  obtain ⟨TA, eTA⟩ : ∃ X, w2.heap.size = X := ⟨_, rfl⟩
  rw [eTA] at k0_4 k1_4 hld_a hlc_a ⊢
  have Ka_4 := hide k0_4
  have Kf1_4 := hide k1_4
  clear eTA hBW2 k0_4 k1_4
  obtain ⟨⟨p0, p1, p2, p3, p4, p5, p6⟩, ⟨pf0, pf1, pf2, pf3, pf4, pf5, pf6⟩, pl⟩ := block7 (unhide Kd_4)
  go_upto_region 4 with (go_at_call 8; refine (unhide HFI _).mono ?_; rintro e w3 ⟨rfl, hb3⟩; have HX_5 := hide (Below.next (unhide HX_4) hb3 (by first | exact Nat.le_refl _ | (have := unhide HBA; omega))); have Kd_5 := hide (keep_below (unhide Kd_4) hb3); have Kc_5 := hide (keep_below (unhide Kc_4) hb3); have Ka_5 := hide (keep_below (unhide Ka_4) hb3); have Kf1_5 := hide (keep_below (unhide Kf1_4) hb3); clear HX_4 Kd_4 Kc_4 Ka_4 Kf1_4; clear hb3 HFI p0 p1 p2 p3 p4 p5 p6 pf0 pf1 pf2 pf3 pf4 pf5 pf6 pl)
  obtain ⟨W3, eW3, hBW3, k0_6, k1_6⟩ := two_new w3 (.cells #[.bool false, .bool (t0 == 0), .bool r1, .int .i64 0, .int .i64 t1, .int .i64 u0, .int .i64 u1] 25) (.cells #[.int .i64 0, .int .i64 0] 27)
  rw [eW3]
  clear eW3
  have hld_b : w.heap.size < w3.heap.size := size_of (unhide Kd_5)
  have hlc_b : TC < w3.heap.size := size_of (unhide Kc_5)
  have hla_b : TA < w3.heap.size := size_of (unhide Ka_5)
  have hlf1_b : TA + 1 < w3.heap.size := size_of (unhide Kf1_5)
  (have HX_6 := hide (Below.next (unhide HX_5) hBW3 (by first | exact Nat.le_refl _ | (have := unhide HBA; omega))); have Kd_6 := hide (keep_below (unhide Kd_5) hBW3); have Kc_6 := hide (keep_below (unhide Kc_5) hBW3); have Ka_6 := hide (keep_below (unhide Ka_5) hBW3); have Kf1_6 := hide (keep_below (unhide Kf1_5) hBW3); clear HX_5 Kd_5 Kc_5 Ka_5 Kf1_5)
  obtain ⟨TB, eTB⟩ : ∃ X, w3.heap.size = X := ⟨_, rfl⟩
  rw [eTB] at k0_6 k1_6 hld_b hlc_b hla_b hlf1_b ⊢
  have Kb_6 := hide k0_6
  have Kf2_6 := hide k1_6
  clear eTB hBW3 k0_6 k1_6
  have HSS : Hid (∀ W, Below W3.heap.size W3 W → (W.cell? ⟨w.heap.size, 0, none⟩ = some (.bool false) ∧ W.cell? ⟨w.heap.size, 1, none⟩ = some (.bool r0) ∧ W.cell? ⟨w.heap.size, 2, none⟩ = some (.bool r1) ∧ W.cell? ⟨w.heap.size, 3, none⟩ = some (.int .i64 t0) ∧ W.cell? ⟨w.heap.size, 4, none⟩ = some (.int .i64 t1) ∧ W.cell? ⟨w.heap.size, 5, none⟩ = some (.int .i64 u0) ∧ W.cell? ⟨w.heap.size, 6, none⟩ = some (.int .i64 u1)) ∧ (W.cell? ⟨TC, 0, none⟩ = some (.int .i64 0) ∧ W.cell? ⟨TC, 1, none⟩ = some (.int .i64 0)) ∧ Below W3.heap.size W3 W) := fun W hW => ⟨(block7 (keep_below (unhide Kd_6) hW)).1, ⟨(block2 (keep_below (unhide Kc_6) hW)).1, (block2 (keep_below (unhide Kc_6) hW)).2.1⟩, hW⟩
  obtain ⟨⟨p0, p1, p2, p3, p4, p5, p6⟩, ⟨q0, q1⟩, -⟩ := unhide HSS _ (Below.refl _ _)
  go_wp2_with fail
  go_region_held3 (fun W => (W.cell? ⟨w.heap.size, 0, none⟩ = some (.bool false) ∧ W.cell? ⟨w.heap.size, 1, none⟩ = some (.bool r0) ∧ W.cell? ⟨w.heap.size, 2, none⟩ = some (.bool r1) ∧ W.cell? ⟨w.heap.size, 3, none⟩ = some (.int .i64 t0) ∧ W.cell? ⟨w.heap.size, 4, none⟩ = some (.int .i64 t1) ∧ W.cell? ⟨w.heap.size, 5, none⟩ = some (.int .i64 u0) ∧ W.cell? ⟨w.heap.size, 6, none⟩ = some (.int .i64 u1)) ∧ (W.cell? ⟨TC, 0, none⟩ = some (.int .i64 0) ∧ W.cell? ⟨TC, 1, none⟩ = some (.int .i64 0)) ∧ Below W3.heap.size W3 W)
    (first | with_reducible exact unhide HSS _ (Below.refl _ _) | with_reducible exact unhide HSS _ (Below.refl _ _).drew | with_reducible exact unhide HSS _ (unhide HY7) | with_reducible exact unhide HSS _ (unhide HY8))
    (first | (go_at_call 9; refine (begun_any _).mono ?_; rintro e w4 ⟨rfl, hb7⟩; have HY7 : Hid (Below W3.heap.size W3 w4) := Below.next (by go_split_ands; assumption) hb7 (Nat.le_refl _); clear hb7) | (go_at_call 10; refine (unhide HDF _).mono ?_; rintro e w5 ⟨rfl, hb8⟩; have HY8 : Hid (Below W3.heap.size W3 w5) := Below.next (by go_split_ands; assumption) hb8 (Nat.le_refl _); clear hb8))
  clear p0 p1 p2 p3 p4 p5 p6 q0 q1 HSS HDF
  (have HX_7 := hide (Below.next (unhide HX_6) (unhide HY8) (by first | exact Nat.le_refl _ | (have := unhide HBA; omega))); have Kd_7 := hide (keep_below (unhide Kd_6) (unhide HY8)); have Kc_7 := hide (keep_below (unhide Kc_6) (unhide HY8)); have Ka_7 := hide (keep_below (unhide Ka_6) (unhide HY8)); have Kf1_7 := hide (keep_below (unhide Kf1_6) (unhide HY8)); have Kb_7 := hide (keep_below (unhide Kb_6) (unhide HY8)); have Kf2_7 := hide (keep_below (unhide Kf2_6) (unhide HY8)); clear HX_6 Kd_6 Kc_6 Ka_6 Kf1_6 Kb_6 Kf2_6)
  clear HY7 HY8
  obtain ⟨⟨p0, p1, p2, p3, p4, p5, p6⟩, ⟨pf0, pf1, pf2, pf3, pf4, pf5, pf6⟩, pl⟩ := block7 (unhide Kd_7)
  go_upto_region 7 with (go_at_call 11; refine (unhide HWF _).mono ?_; rintro e w6 ⟨rfl, hb6⟩; have HX_8 := hide (Below.next (unhide HX_7) hb6 (by first | exact Nat.le_refl _ | (have := unhide HBA; omega))); have Kd_8 := hide (keep_below (unhide Kd_7) hb6); have Kc_8 := hide (keep_below (unhide Kc_7) hb6); have Ka_8 := hide (keep_below (unhide Ka_7) hb6); have Kf1_8 := hide (keep_below (unhide Kf1_7) hb6); have Kb_8 := hide (keep_below (unhide Kb_7) hb6); have Kf2_8 := hide (keep_below (unhide Kf2_7) hb6); clear HX_7 Kd_7 Kc_7 Ka_7 Kf1_7 Kb_7 Kf2_7; clear hb6 HWF p0 p1 p2 p3 p4 p5 p6 pf0 pf1 pf2 pf3 pf4 pf5 pf6 pl)
  have HX_9 := hide ((unhide HX_8).alloc (Nat.le_trans (show w.heap.size ≤ w.heap.size from Nat.le_refl _) (unhide HX_8).size) (.cells #[.int .i64 0, .int .i64 0] 27))
  have Kd_9 := hide (keep_alloc (unhide Kd_8) (.cells #[.int .i64 0, .int .i64 0] 27))
  have Kc_9 := hide (keep_alloc (unhide Kc_8) (.cells #[.int .i64 0, .int .i64 0] 27))
  have Ka_9 := hide (keep_alloc (unhide Ka_8) (.cells #[.int .i64 0, .int .i64 0] 27))
  have Kf1_9 := hide (keep_alloc (unhide Kf1_8) (.cells #[.int .i64 0, .int .i64 0] 27))
  have Kb_9 := hide (keep_alloc (unhide Kb_8) (.cells #[.int .i64 0, .int .i64 0] 27))
  have Kf2_9 := hide (keep_alloc (unhide Kf2_8) (.cells #[.int .i64 0, .int .i64 0] 27))
  have Kv_9 := hide (new_block w6 (.cells #[.int .i64 0, .int .i64 0] 27))
  have hld_v : w.heap.size < w6.heap.size := size_of (unhide Kd_8)
  have hlc_v : TC < w6.heap.size := size_of (unhide Kc_8)
  have hla_v : TA < w6.heap.size := size_of (unhide Ka_8)
  have hlf1_v : TA + 1 < w6.heap.size := size_of (unhide Kf1_8)
  have hlb_v : TB < w6.heap.size := size_of (unhide Kb_8)
  have hlf2_v : TB + 1 < w6.heap.size := size_of (unhide Kf2_8)
  obtain ⟨TV, eTV⟩ : ∃ X, w6.heap.size = X := ⟨_, rfl⟩
  obtain ⟨W5, eW5⟩ : ∃ X, w6.alloc (.cells #[.int .i64 0, .int .i64 0] 27) = X := ⟨_, rfl⟩
  rw [eTV, eW5] at Kv_9; rw [eW5] at HX_9 Kd_9 Kc_9 Ka_9 Kf1_9 Kb_9 Kf2_9; rw [eTV] at hld_v hlc_v hla_v hlf1_v hlb_v hlf2_v; rw [eTV, eW5]
  clear eTV eW5 HX_8 Kd_8 Kc_8 Ka_8 Kf1_8 Kb_8 Kf2_8
  obtain ⟨v0, v1, vf0, vf1, vl⟩ := block2 (unhide Kv_9)
  go_upto_region 8 with fail
  clear v0 v1 vf0 vf1 vl
  have HX_10 := hide ((unhide HX_9).alloc (Nat.le_trans (show w.heap.size ≤ w.heap.size from Nat.le_refl _) (unhide HX_9).size) (.cells #[.int .i64 0, .int .i64 0] 27))
  have Kd_10 := hide (keep_alloc (unhide Kd_9) (.cells #[.int .i64 0, .int .i64 0] 27))
  have Kc_10 := hide (keep_alloc (unhide Kc_9) (.cells #[.int .i64 0, .int .i64 0] 27))
  have Ka_10 := hide (keep_alloc (unhide Ka_9) (.cells #[.int .i64 0, .int .i64 0] 27))
  have Kf1_10 := hide (keep_alloc (unhide Kf1_9) (.cells #[.int .i64 0, .int .i64 0] 27))
  have Kb_10 := hide (keep_alloc (unhide Kb_9) (.cells #[.int .i64 0, .int .i64 0] 27))
  have Kf2_10 := hide (keep_alloc (unhide Kf2_9) (.cells #[.int .i64 0, .int .i64 0] 27))
  have Kv_10 := hide (keep_alloc (unhide Kv_9) (.cells #[.int .i64 0, .int .i64 0] 27))
  have Kw_10 := hide (new_block W5 (.cells #[.int .i64 0, .int .i64 0] 27))
  have hld_w : w.heap.size < W5.heap.size := size_of (unhide Kd_9)
  have hlc_w : TC < W5.heap.size := size_of (unhide Kc_9)
  have hla_w : TA < W5.heap.size := size_of (unhide Ka_9)
  have hlf1_w : TA + 1 < W5.heap.size := size_of (unhide Kf1_9)
  have hlb_w : TB < W5.heap.size := size_of (unhide Kb_9)
  have hlf2_w : TB + 1 < W5.heap.size := size_of (unhide Kf2_9)
  have hlv_w : TV < W5.heap.size := size_of (unhide Kv_9)
  obtain ⟨TW, eTW⟩ : ∃ X, W5.heap.size = X := ⟨_, rfl⟩
  obtain ⟨W6, eW6⟩ : ∃ X, W5.alloc (.cells #[.int .i64 0, .int .i64 0] 27) = X := ⟨_, rfl⟩
  rw [eTW, eW6] at Kw_10; rw [eW6] at HX_10 Kd_10 Kc_10 Ka_10 Kf1_10 Kb_10 Kf2_10 Kv_10; rw [eTW] at hld_w hlc_w hla_w hlf1_w hlb_w hlf2_w hlv_w; rw [eTW, eW6]
  clear eTW eW6 HX_9 Kd_9 Kc_9 Ka_9 Kf1_9 Kb_9 Kf2_9 Kv_9
  obtain ⟨x0, x1, xf0, xf1, xl⟩ := block2 (unhide Kw_10)
  obtain ⟨⟨p0, p1, p2, p3, p4, p5, p6⟩, ⟨pf0, pf1, pf2, pf3, pf4, pf5, pf6⟩, pl⟩ := block7 (unhide Kd_10)
  go_upto_region 10 with (go_at_call 12; refine (f_any _ _ _).mono ?_; rintro e w7 ⟨rfl, hb7⟩; have HX_11 := hide (Below.next (unhide HX_10) hb7 (by first | exact Nat.le_refl _ | (have := unhide HBA; omega))); have Kd_11 := hide (keep_below (unhide Kd_10) hb7); have Kc_11 := hide (keep_below (unhide Kc_10) hb7); have Ka_11 := hide (keep_below (unhide Ka_10) hb7); have Kf1_11 := hide (keep_below (unhide Kf1_10) hb7); have Kb_11 := hide (keep_below (unhide Kb_10) hb7); have Kf2_11 := hide (keep_below (unhide Kf2_10) hb7); have Kv_11 := hide (keep_below (unhide Kv_10) hb7); have Kw_11 := hide (keep_below (unhide Kw_10) hb7); clear HX_10 Kd_10 Kc_10 Ka_10 Kf1_10 Kb_10 Kf2_10 Kv_10 Kw_10; clear hb7 p0 p1 p2 p3 p4 p5 p6 pf0 pf1 pf2 pf3 pf4 pf5 pf6 pl x0 x1 xf0 xf1 xl; obtain ⟨x0, x1, xf0, xf1, xl⟩ := block2 (unhide Kw_11))
  clear x0 x1 xf0 xf1 xl
  have HX_12 := hide (put2_below (y0 := .int .i64 3) (y1 := .int .i64 (-1)) (unhide HX_11) (show w.heap.size ≤ TW by first | omega | (have := unhide HBA; omega)))
  have Kd_12 := hide ((put2_keep (y0 := .int .i64 3) (y1 := .int .i64 (-1)) (show w.heap.size ≠ TW by omega)).trans (unhide Kd_11))
  have Kc_12 := hide ((put2_keep (y0 := .int .i64 3) (y1 := .int .i64 (-1)) (show TC ≠ TW by omega)).trans (unhide Kc_11))
  have Ka_12 := hide ((put2_keep (y0 := .int .i64 3) (y1 := .int .i64 (-1)) (show TA ≠ TW by omega)).trans (unhide Ka_11))
  have Kf1_12 := hide ((put2_keep (y0 := .int .i64 3) (y1 := .int .i64 (-1)) (show TA + 1 ≠ TW by omega)).trans (unhide Kf1_11))
  have Kb_12 := hide ((put2_keep (y0 := .int .i64 3) (y1 := .int .i64 (-1)) (show TB ≠ TW by omega)).trans (unhide Kb_11))
  have Kf2_12 := hide ((put2_keep (y0 := .int .i64 3) (y1 := .int .i64 (-1)) (show TB + 1 ≠ TW by omega)).trans (unhide Kf2_11))
  have Kv_12 := hide ((put2_keep (y0 := .int .i64 3) (y1 := .int .i64 (-1)) (show TV ≠ TW by omega)).trans (unhide Kv_11))
  have Kw_12 := hide (put2_new (y0 := .int .i64 3) (y1 := .int .i64 (-1)) (unhide Kw_11))
  obtain ⟨W7, eW7⟩ : ∃ X, put2 w7 (TW) (.int .i64 3) (.int .i64 (-1)) = X := ⟨_, rfl⟩
  rw [eW7] at HX_12 Kd_12 Kc_12 Ka_12 Kf1_12 Kb_12 Kf2_12 Kv_12 Kw_12
  have eW72 : ((w7).setCell ⟨TW, 0, none⟩ (.int .i64 3)).setCell ⟨TW, 1, none⟩ (.int .i64 (-1)) = W7 := eW7
  rw [eW72]
  clear eW7 eW72 HX_11 Kd_11 Kc_11 Ka_11 Kf1_11 Kb_11 Kf2_11 Kv_11 Kw_11
  obtain ⟨x0, x1, xf0, xf1, xl⟩ := block2 (unhide Kw_12)
  obtain ⟨⟨p0, p1, p2, p3, p4, p5, p6⟩, ⟨pf0, pf1, pf2, pf3, pf4, pf5, pf6⟩, pl⟩ := block7 (unhide Kd_12)
  obtain ⟨e0, e1, ef0, ef1, el⟩ := block2 (unhide Kf1_12)
  go_upto_region 17 with fail
  clear x0 x1 xf0 xf1 xl p0 p1 p2 p3 p4 p5 p6 pf0 pf1 pf2 pf3 pf4 pf5 pf6 pl e0 e1 ef0 ef1 el
  have HX_13 := hide ((unhide HX_12).alloc (Nat.le_trans (show w.heap.size ≤ w.heap.size from Nat.le_refl _) (unhide HX_12).size) (.cells #[.bool false, .bool r0, .bool r1, .int .i64 t0, .int .i64 t1, .int .i64 u0, .int .i64 u1] 25))
  have Kd_13 := hide (keep_alloc (unhide Kd_12) (.cells #[.bool false, .bool r0, .bool r1, .int .i64 t0, .int .i64 t1, .int .i64 u0, .int .i64 u1] 25))
  have Kc_13 := hide (keep_alloc (unhide Kc_12) (.cells #[.bool false, .bool r0, .bool r1, .int .i64 t0, .int .i64 t1, .int .i64 u0, .int .i64 u1] 25))
  have Ka_13 := hide (keep_alloc (unhide Ka_12) (.cells #[.bool false, .bool r0, .bool r1, .int .i64 t0, .int .i64 t1, .int .i64 u0, .int .i64 u1] 25))
  have Kf1_13 := hide (keep_alloc (unhide Kf1_12) (.cells #[.bool false, .bool r0, .bool r1, .int .i64 t0, .int .i64 t1, .int .i64 u0, .int .i64 u1] 25))
  have Kb_13 := hide (keep_alloc (unhide Kb_12) (.cells #[.bool false, .bool r0, .bool r1, .int .i64 t0, .int .i64 t1, .int .i64 u0, .int .i64 u1] 25))
  have Kf2_13 := hide (keep_alloc (unhide Kf2_12) (.cells #[.bool false, .bool r0, .bool r1, .int .i64 t0, .int .i64 t1, .int .i64 u0, .int .i64 u1] 25))
  have Kv_13 := hide (keep_alloc (unhide Kv_12) (.cells #[.bool false, .bool r0, .bool r1, .int .i64 t0, .int .i64 t1, .int .i64 u0, .int .i64 u1] 25))
  have Kw_13 := hide (keep_alloc (unhide Kw_12) (.cells #[.bool false, .bool r0, .bool r1, .int .i64 t0, .int .i64 t1, .int .i64 u0, .int .i64 u1] 25))
  have Kn_13 := hide (new_block W7 (.cells #[.bool false, .bool r0, .bool r1, .int .i64 t0, .int .i64 t1, .int .i64 u0, .int .i64 u1] 25))
  have hld_n : w.heap.size < W7.heap.size := size_of (unhide Kd_12)
  have hlc_n : TC < W7.heap.size := size_of (unhide Kc_12)
  have hla_n : TA < W7.heap.size := size_of (unhide Ka_12)
  have hlf1_n : TA + 1 < W7.heap.size := size_of (unhide Kf1_12)
  have hlb_n : TB < W7.heap.size := size_of (unhide Kb_12)
  have hlf2_n : TB + 1 < W7.heap.size := size_of (unhide Kf2_12)
  have hlv_n : TV < W7.heap.size := size_of (unhide Kv_12)
  have hlw_n : TW < W7.heap.size := size_of (unhide Kw_12)
  obtain ⟨TN, eTN⟩ : ∃ X, W7.heap.size = X := ⟨_, rfl⟩
  obtain ⟨W8, eW8⟩ : ∃ X, W7.alloc (.cells #[.bool false, .bool r0, .bool r1, .int .i64 t0, .int .i64 t1, .int .i64 u0, .int .i64 u1] 25) = X := ⟨_, rfl⟩
  rw [eTN, eW8] at Kn_13; rw [eW8] at HX_13 Kd_13 Kc_13 Ka_13 Kf1_13 Kb_13 Kf2_13 Kv_13 Kw_13; rw [eTN] at hld_n hlc_n hla_n hlf1_n hlb_n hlf2_n hlv_n hlw_n; rw [eTN, eW8]
  clear eTN eW8 HX_12 Kd_12 Kc_12 Ka_12 Kf1_12 Kb_12 Kf2_12 Kv_12 Kw_12
  obtain ⟨⟨n0, n1, n2, n3, n4, n5, n6⟩, ⟨nf0, nf1, nf2, nf3, nf4, nf5, nf6⟩, nl⟩ := block7 (unhide Kn_13)
  obtain ⟨x0, x1, xf0, xf1, xl⟩ := block2 (unhide Kw_13)
  obtain ⟨⟨p0, p1, p2, p3, p4, p5, p6⟩, ⟨pf0, pf1, pf2, pf3, pf4, pf5, pf6⟩, pl⟩ := block7 (unhide Kd_13)
  obtain ⟨⟨a0, a1, a2, a3, a4, a5, a6⟩, ⟨af0, af1, af2, af3, af4, af5, af6⟩, al⟩ := block7 (unhide Ka_13)
  obtain ⟨⟨b0, b1, b2, b3, b4, b5, b6⟩, ⟨bf0, bf1, bf2, bf3, bf4, bf5, bf6⟩, bl⟩ := block7 (unhide Kb_13)
  obtain ⟨e0, e1, ef0, ef1, el⟩ := block2 (unhide Kf2_13)
  obtain ⟨v0, v1, vf0, vf1, vl⟩ := block2 (unhide Kv_13)
  have ned : w.heap.size ≠ TN := Nat.ne_of_lt hld_n
  have nfd : TN ≠ w.heap.size := Nat.ne_of_gt hld_n
  have nea : TA ≠ TN := Nat.ne_of_lt hla_n
  have nfa : TN ≠ TA := Nat.ne_of_gt hla_n
  have neb : TB ≠ TN := Nat.ne_of_lt hlb_n
  have nfb : TN ≠ TB := Nat.ne_of_gt hlb_n
  have nef2 : TB + 1 ≠ TN := Nat.ne_of_lt hlf2_n
  have nff2 : TN ≠ TB + 1 := Nat.ne_of_gt hlf2_n
  have nev : TV ≠ TN := Nat.ne_of_lt hlv_n
  have nfv : TN ≠ TV := Nat.ne_of_gt hlv_n
  have new : TW ≠ TN := Nat.ne_of_lt hlw_n
  have nfw : TN ≠ TW := Nat.ne_of_gt hlw_n
  go_upto_region 28 with fail
  clear n0 n1 n2 n3 n4 n5 n6 nf0 nf1 nf2 nf3 nf4 nf5 nf6 nl x0 x1 xf0 xf1 xl p0 p1 p2 p3 p4 p5 p6 pf0 pf1 pf2 pf3 pf4 pf5 pf6 pl a0 a1 a2 a3 a4 a5 a6 af0 af1 af2 af3 af4 af5 af6 al b0 b1 b2 b3 b4 b5 b6 bf0 bf1 bf2 bf3 bf4 bf5 bf6 bl e0 e1 ef0 ef1 el v0 v1 vf0 vf1 vl
  have HX_14 := hide (put7_below (y0 := .bool false) (y1 := .bool false) (y2 := .bool false) (y3 := .int .i64 0) (y4 := .int .i64 0) (y5 := .int .i64 0) (y6 := .int .i64 0) (unhide HX_13) (show w.heap.size ≤ TN by first | omega | (have := unhide HBA; omega)))
  have Kd_14 := hide ((put7_keep (y0 := .bool false) (y1 := .bool false) (y2 := .bool false) (y3 := .int .i64 0) (y4 := .int .i64 0) (y5 := .int .i64 0) (y6 := .int .i64 0) (show w.heap.size ≠ TN by omega)).trans (unhide Kd_13))
  have Kc_14 := hide ((put7_keep (y0 := .bool false) (y1 := .bool false) (y2 := .bool false) (y3 := .int .i64 0) (y4 := .int .i64 0) (y5 := .int .i64 0) (y6 := .int .i64 0) (show TC ≠ TN by omega)).trans (unhide Kc_13))
  have Ka_14 := hide ((put7_keep (y0 := .bool false) (y1 := .bool false) (y2 := .bool false) (y3 := .int .i64 0) (y4 := .int .i64 0) (y5 := .int .i64 0) (y6 := .int .i64 0) (show TA ≠ TN by omega)).trans (unhide Ka_13))
  have Kf1_14 := hide ((put7_keep (y0 := .bool false) (y1 := .bool false) (y2 := .bool false) (y3 := .int .i64 0) (y4 := .int .i64 0) (y5 := .int .i64 0) (y6 := .int .i64 0) (show TA + 1 ≠ TN by omega)).trans (unhide Kf1_13))
  have Kb_14 := hide ((put7_keep (y0 := .bool false) (y1 := .bool false) (y2 := .bool false) (y3 := .int .i64 0) (y4 := .int .i64 0) (y5 := .int .i64 0) (y6 := .int .i64 0) (show TB ≠ TN by omega)).trans (unhide Kb_13))
  have Kf2_14 := hide ((put7_keep (y0 := .bool false) (y1 := .bool false) (y2 := .bool false) (y3 := .int .i64 0) (y4 := .int .i64 0) (y5 := .int .i64 0) (y6 := .int .i64 0) (show TB + 1 ≠ TN by omega)).trans (unhide Kf2_13))
  have Kv_14 := hide ((put7_keep (y0 := .bool false) (y1 := .bool false) (y2 := .bool false) (y3 := .int .i64 0) (y4 := .int .i64 0) (y5 := .int .i64 0) (y6 := .int .i64 0) (show TV ≠ TN by omega)).trans (unhide Kv_13))
  have Kw_14 := hide ((put7_keep (y0 := .bool false) (y1 := .bool false) (y2 := .bool false) (y3 := .int .i64 0) (y4 := .int .i64 0) (y5 := .int .i64 0) (y6 := .int .i64 0) (show TW ≠ TN by omega)).trans (unhide Kw_13))
  have Kn_14 := hide (put7_new (y0 := .bool false) (y1 := .bool false) (y2 := .bool false) (y3 := .int .i64 0) (y4 := .int .i64 0) (y5 := .int .i64 0) (y6 := .int .i64 0) (unhide Kn_13))
  obtain ⟨W9, eW9⟩ : ∃ X, put7 W8 (TN) (.bool false) (.bool false) (.bool false) (.int .i64 0) (.int .i64 0) (.int .i64 0) (.int .i64 0) = X := ⟨_, rfl⟩
  rw [eW9] at HX_14 Kd_14 Kc_14 Ka_14 Kf1_14 Kb_14 Kf2_14 Kv_14 Kw_14 Kn_14
  have eW92 : (((((((W8).setCell ⟨TN, 0, none⟩ (.bool false)).setCell ⟨TN, 1, none⟩ (.bool false)).setCell ⟨TN, 2, none⟩ (.bool false)).setCell ⟨TN, 3, none⟩ (.int .i64 0)).setCell ⟨TN, 4, none⟩ (.int .i64 0)).setCell ⟨TN, 5, none⟩ (.int .i64 0)).setCell ⟨TN, 6, none⟩ (.int .i64 0) = W9 := eW9
  rw [eW92]
  clear eW9 eW92 HX_13 Kd_13 Kc_13 Ka_13 Kf1_13 Kb_13 Kf2_13 Kv_13 Kw_13 Kn_13
  obtain ⟨⟨n0, n1, n2, n3, n4, n5, n6⟩, ⟨nf0, nf1, nf2, nf3, nf4, nf5, nf6⟩, nl⟩ := block7 (unhide Kn_14)
  obtain ⟨⟨p0, p1, p2, p3, p4, p5, p6⟩, ⟨pf0, pf1, pf2, pf3, pf4, pf5, pf6⟩, pl⟩ := block7 (unhide Kd_14)
  obtain ⟨⟨a0, a1, a2, a3, a4, a5, a6⟩, ⟨af0, af1, af2, af3, af4, af5, af6⟩, al⟩ := block7 (unhide Ka_14)
  obtain ⟨e0, e1, ef0, ef1, el⟩ := block2 (unhide Kf2_14)
  obtain ⟨v0, v1, vf0, vf1, vl⟩ := block2 (unhide Kv_14)
  go_upto_region 33 with fail
  clear n0 n1 n2 n3 n4 n5 n6 nf0 nf1 nf2 nf3 nf4 nf5 nf6 nl p0 p1 p2 p3 p4 p5 p6 pf0 pf1 pf2 pf3 pf4 pf5 pf6 pl a0 a1 a2 a3 a4 a5 a6 af0 af1 af2 af3 af4 af5 af6 al e0 e1 ef0 ef1 el v0 v1 vf0 vf1 vl
  have HX_15 := hide (put7_below (y0 := .bool false) (y1 := .bool r0) (y2 := .bool r1) (y3 := .int .i64 t0) (y4 := .int .i64 t1) (y5 := .int .i64 u0) (y6 := .int .i64 u1) (unhide HX_14) (show w.heap.size ≤ TN by first | omega | (have := unhide HBA; omega)))
  have Kd_15 := hide ((put7_keep (y0 := .bool false) (y1 := .bool r0) (y2 := .bool r1) (y3 := .int .i64 t0) (y4 := .int .i64 t1) (y5 := .int .i64 u0) (y6 := .int .i64 u1) (show w.heap.size ≠ TN by omega)).trans (unhide Kd_14))
  have Kc_15 := hide ((put7_keep (y0 := .bool false) (y1 := .bool r0) (y2 := .bool r1) (y3 := .int .i64 t0) (y4 := .int .i64 t1) (y5 := .int .i64 u0) (y6 := .int .i64 u1) (show TC ≠ TN by omega)).trans (unhide Kc_14))
  have Ka_15 := hide ((put7_keep (y0 := .bool false) (y1 := .bool r0) (y2 := .bool r1) (y3 := .int .i64 t0) (y4 := .int .i64 t1) (y5 := .int .i64 u0) (y6 := .int .i64 u1) (show TA ≠ TN by omega)).trans (unhide Ka_14))
  have Kf1_15 := hide ((put7_keep (y0 := .bool false) (y1 := .bool r0) (y2 := .bool r1) (y3 := .int .i64 t0) (y4 := .int .i64 t1) (y5 := .int .i64 u0) (y6 := .int .i64 u1) (show TA + 1 ≠ TN by omega)).trans (unhide Kf1_14))
  have Kb_15 := hide ((put7_keep (y0 := .bool false) (y1 := .bool r0) (y2 := .bool r1) (y3 := .int .i64 t0) (y4 := .int .i64 t1) (y5 := .int .i64 u0) (y6 := .int .i64 u1) (show TB ≠ TN by omega)).trans (unhide Kb_14))
  have Kf2_15 := hide ((put7_keep (y0 := .bool false) (y1 := .bool r0) (y2 := .bool r1) (y3 := .int .i64 t0) (y4 := .int .i64 t1) (y5 := .int .i64 u0) (y6 := .int .i64 u1) (show TB + 1 ≠ TN by omega)).trans (unhide Kf2_14))
  have Kv_15 := hide ((put7_keep (y0 := .bool false) (y1 := .bool r0) (y2 := .bool r1) (y3 := .int .i64 t0) (y4 := .int .i64 t1) (y5 := .int .i64 u0) (y6 := .int .i64 u1) (show TV ≠ TN by omega)).trans (unhide Kv_14))
  have Kw_15 := hide ((put7_keep (y0 := .bool false) (y1 := .bool r0) (y2 := .bool r1) (y3 := .int .i64 t0) (y4 := .int .i64 t1) (y5 := .int .i64 u0) (y6 := .int .i64 u1) (show TW ≠ TN by omega)).trans (unhide Kw_14))
  have Kn_15 := hide (put7_new (y0 := .bool false) (y1 := .bool r0) (y2 := .bool r1) (y3 := .int .i64 t0) (y4 := .int .i64 t1) (y5 := .int .i64 u0) (y6 := .int .i64 u1) (unhide Kn_14))
  obtain ⟨W10, eW10⟩ : ∃ X, put7 W9 (TN) (.bool false) (.bool r0) (.bool r1) (.int .i64 t0) (.int .i64 t1) (.int .i64 u0) (.int .i64 u1) = X := ⟨_, rfl⟩
  rw [eW10] at HX_15 Kd_15 Kc_15 Ka_15 Kf1_15 Kb_15 Kf2_15 Kv_15 Kw_15 Kn_15
  have eW102 : (((((((W9).setCell ⟨TN, 0, none⟩ (.bool false)).setCell ⟨TN, 1, none⟩ (.bool r0)).setCell ⟨TN, 2, none⟩ (.bool r1)).setCell ⟨TN, 3, none⟩ (.int .i64 t0)).setCell ⟨TN, 4, none⟩ (.int .i64 t1)).setCell ⟨TN, 5, none⟩ (.int .i64 u0)).setCell ⟨TN, 6, none⟩ (.int .i64 u1) = W10 := eW10
  rw [eW102]
  clear eW10 eW102 HX_14 Kd_14 Kc_14 Ka_14 Kf1_14 Kb_14 Kf2_14 Kv_14 Kw_14 Kn_14
  obtain ⟨⟨n0, n1, n2, n3, n4, n5, n6⟩, ⟨nf0, nf1, nf2, nf3, nf4, nf5, nf6⟩, nl⟩ := block7 (unhide Kn_15)
  obtain ⟨⟨p0, p1, p2, p3, p4, p5, p6⟩, ⟨pf0, pf1, pf2, pf3, pf4, pf5, pf6⟩, pl⟩ := block7 (unhide Kd_15)
  obtain ⟨⟨b0, b1, b2, b3, b4, b5, b6⟩, ⟨bf0, bf1, bf2, bf3, bf4, bf5, bf6⟩, bl⟩ := block7 (unhide Kb_15)
  go_wp2_with fail
  go_ret
  exact ⟨rfl, (by repeat (first | with_reducible exact unhide HX_15 | with_reducible refine drew_below ?_ | (with_reducible refine below_set ?_ (by omega) _)))⟩

set_option maxRecDepth 100000 in
set_option maxHeartbeats 4000000 in
theorem waits0_state_false (w : World) (r0 r1 : Bool) (t0 t1 u0 u1 task now : Int) (hC : descF false r0 r1 t0 t1 u0 u1 = (0, 0)) (h1 : ¬ task < 1) (h2 : ¬ now < 0) (h3 : ¬ 1000000000 < now) (h4 : 0 < t0) :
    Calls Try.prog 3 #[.agg #[.bool false, .bool r0, .bool r1, .int .i64 t0, .int .i64 t1, .int .i64 u0, .int .i64 u1], .int .i64 0, .int .i64 task, .int .i64 now] w fun e w' => e = .returned (.bool true) ∧ Below w.heap.size w w' := by
  have HCK : Hid (∀ W, Calls Try.prog 6 #[.agg #[.bool false, .bool r0, .bool r1, .int .i64 t0, .int .i64 t1, .int .i64 u0, .int .i64 u1]] W fun e w' => e = .returned (.agg #[.int .i64 0, .int .i64 0]) ∧ Below W.heap.size W w') := fun W => check_any W false r0 r1 t0 t1 u0 u1 0 0 hC
  have HDF : Hid (∀ W, Calls Try.prog 10 #[.agg #[.bool false, .bool r0, .bool r1, .int .i64 t0, .int .i64 t1, .int .i64 u0, .int .i64 u1]] W fun e w' => e = .returned (.agg #[.int .i64 0, .int .i64 0]) ∧ Below W.heap.size W w') := fun W => descFault_any W false r0 r1 t0 t1 u0 u1 0 0 hC
  have HWF : Hid (∀ W, Calls Try.prog 11 #[.agg #[.bool false, .bool r0, .bool r1, .int .i64 t0, .int .i64 t1, .int .i64 u0, .int .i64 u1], .int .i64 0] W fun e w' => e = .returned (.agg #[.int .i64 0, .int .i64 0]) ∧ Below W.heap.size W w') := fun W => wayFault_any W false r0 r1 t0 t1 u0 u1 0 0 0 0 0 hC (show onF (0, 0) 0 = (0, 0) by decide)
  have HWT : Hid (∀ W, Calls Try.prog 7 #[.agg #[.bool false, .bool r0, .bool r1, .int .i64 t0, .int .i64 t1, .int .i64 u0, .int .i64 u1], .int .i64 0, .int .i64 task, .int .i64 now] W fun e w' => e = .returned (.tuple #[.agg #[.bool false, .bool false, .bool false, .int .i64 0, .int .i64 0, .int .i64 0, .int .i64 0], .int .i64 0, .agg #[.int .i64 11, .int .i64 (-1)]]) ∧ Below W.heap.size W w') := fun W => wait0_fault W false r0 r1 t0 t1 u0 u1 task now 0 0 11 (-1) hC (show waitF (onF (0, 0) 0) t0 t1 task now = (11, (-1)) by rw [show onF (0, 0) 0 = (0, 0) from by decide]; unfold waitF; rw [if_neg (by simp), if_neg (by omega), if_pos h4]) (by decide)
  have HFI : Hid (∀ W, Calls Try.prog 8 #[.agg #[.bool false, .bool r0, .bool r1, .int .i64 t0, .int .i64 t1, .int .i64 u0, .int .i64 u1], .int .i64 0] W fun e w' => e = .returned (.tuple #[.agg #[.bool false, .bool false, .bool r1, .int .i64 0, .int .i64 t1, .int .i64 u0, .int .i64 u1], .int .i64 t0, .agg #[.int .i64 0, .int .i64 0]]) ∧ Below W.heap.size W w') := fun W => by have := fire0_well W false r0 r1 t0 t1 u0 u1 0 0 0 hC (by decide) rfl; rw [show (t0 == 0) = false from by rw [beq_eq_false_iff_ne]; omega] at this; exact this
  clear hC
  have x4 : (t0 != 0) = true := by rw [bne_iff_ne]; omega
  have x4b : (t0 == 0) = false := by rw [beq_eq_false_iff_ne]; omega
  have xi := arr_i; have xb := arr_b
  have xbb : ∀ b : Bool, (b == b) = true := fun b => by cases b <;> rfl
  have xii : ∀ b : Int, (b == b) = true := fun b => by simp
  obtain ⟨W0, e0, hB, k0⟩ := one_new w (.cells #[.bool false, .bool r0, .bool r1, .int .i64 t0, .int .i64 t1, .int .i64 u0, .int .i64 u1] 25)
  have HX := hide hB; have HE := hide e0; have HD := hide k0
  clear hB e0 k0
  go_enter Try.func3, Try.ntmps3
  go_upto_region 1 with fail
  rw [unhide HE]
  clear HE
  obtain ⟨⟨p0, p1, p2, p3, p4, p5, p6⟩, ⟨pf0, pf1, pf2, pf3, pf4, pf5, pf6⟩, pl⟩ := block7 (unhide HD)
  go_upto_region 2 with (go_at_call 6; refine (unhide HCK _).mono ?_; rintro e w1 ⟨rfl, hb1⟩; have HX_1 := hide (Below.next (unhide HX) hb1 (by first | exact Nat.le_refl _ | (have := unhide HBA; omega))); have Kd_1 := hide (keep_below (unhide HD) hb1); clear HX HD; clear hb1 HCK p0 p1 p2 p3 p4 p5 p6 pf0 pf1 pf2 pf3 pf4 pf5 pf6 pl)
  have HX_2 := hide ((unhide HX_1).alloc (Nat.le_trans (show w.heap.size ≤ w.heap.size from Nat.le_refl _) (unhide HX_1).size) (.cells #[.int .i64 0, .int .i64 0] 27))
  have Kd_2 := hide (keep_alloc (unhide Kd_1) (.cells #[.int .i64 0, .int .i64 0] 27))
  have Kc_2 := hide (new_block w1 (.cells #[.int .i64 0, .int .i64 0] 27))
  have hld_c : w.heap.size < w1.heap.size := size_of (unhide Kd_1)
  obtain ⟨TC, eTC⟩ : ∃ X, w1.heap.size = X := ⟨_, rfl⟩
  obtain ⟨W1, eW1⟩ : ∃ X, w1.alloc (.cells #[.int .i64 0, .int .i64 0] 27) = X := ⟨_, rfl⟩
  rw [eTC, eW1] at Kc_2; rw [eW1] at HX_2 Kd_2; rw [eTC] at hld_c; rw [eTC, eW1]
  clear eTC eW1 HX_1 Kd_1
  obtain ⟨⟨p0, p1, p2, p3, p4, p5, p6⟩, ⟨pf0, pf1, pf2, pf3, pf4, pf5, pf6⟩, pl⟩ := block7 (unhide Kd_2)
  go_upto_region 3 with (go_at_call 7; refine (unhide HWT _).mono ?_; rintro e w2 ⟨rfl, hb2⟩; have HX_3 := hide (Below.next (unhide HX_2) hb2 (by first | exact Nat.le_refl _ | (have := unhide HBA; omega))); have Kd_3 := hide (keep_below (unhide Kd_2) hb2); have Kc_3 := hide (keep_below (unhide Kc_2) hb2); clear HX_2 Kd_2 Kc_2; clear hb2 HWT p0 p1 p2 p3 p4 p5 p6 pf0 pf1 pf2 pf3 pf4 pf5 pf6 pl)
  obtain ⟨W2, eW2, hBW2, k0_4, k1_4⟩ := two_new w2 (.cells #[.bool false, .bool false, .bool false, .int .i64 0, .int .i64 0, .int .i64 0, .int .i64 0] 25) (.cells #[.int .i64 11, .int .i64 (-1)] 27)
  rw [eW2]
  clear eW2
  have hld_a : w.heap.size < w2.heap.size := size_of (unhide Kd_3)
  have hlc_a : TC < w2.heap.size := size_of (unhide Kc_3)
  (have HX_4 := hide (Below.next (unhide HX_3) hBW2 (by first | exact Nat.le_refl _ | (have := unhide HBA; omega))); have Kd_4 := hide (keep_below (unhide Kd_3) hBW2); have Kc_4 := hide (keep_below (unhide Kc_3) hBW2); clear HX_3 Kd_3 Kc_3)
  obtain ⟨TA, eTA⟩ : ∃ X, w2.heap.size = X := ⟨_, rfl⟩
  rw [eTA] at k0_4 k1_4 hld_a hlc_a ⊢
  have Ka_4 := hide k0_4
  have Kf1_4 := hide k1_4
  clear eTA hBW2 k0_4 k1_4
  obtain ⟨⟨p0, p1, p2, p3, p4, p5, p6⟩, ⟨pf0, pf1, pf2, pf3, pf4, pf5, pf6⟩, pl⟩ := block7 (unhide Kd_4)
  go_upto_region 4 with (go_at_call 8; refine (unhide HFI _).mono ?_; rintro e w3 ⟨rfl, hb3⟩; have HX_5 := hide (Below.next (unhide HX_4) hb3 (by first | exact Nat.le_refl _ | (have := unhide HBA; omega))); have Kd_5 := hide (keep_below (unhide Kd_4) hb3); have Kc_5 := hide (keep_below (unhide Kc_4) hb3); have Ka_5 := hide (keep_below (unhide Ka_4) hb3); have Kf1_5 := hide (keep_below (unhide Kf1_4) hb3); clear HX_4 Kd_4 Kc_4 Ka_4 Kf1_4; clear hb3 HFI p0 p1 p2 p3 p4 p5 p6 pf0 pf1 pf2 pf3 pf4 pf5 pf6 pl)
  obtain ⟨W3, eW3, hBW3, k0_6, k1_6⟩ := two_new w3 (.cells #[.bool false, .bool false, .bool r1, .int .i64 0, .int .i64 t1, .int .i64 u0, .int .i64 u1] 25) (.cells #[.int .i64 0, .int .i64 0] 27)
  rw [eW3]
  clear eW3
  have hld_b : w.heap.size < w3.heap.size := size_of (unhide Kd_5)
  have hlc_b : TC < w3.heap.size := size_of (unhide Kc_5)
  have hla_b : TA < w3.heap.size := size_of (unhide Ka_5)
  have hlf1_b : TA + 1 < w3.heap.size := size_of (unhide Kf1_5)
  (have HX_6 := hide (Below.next (unhide HX_5) hBW3 (by first | exact Nat.le_refl _ | (have := unhide HBA; omega))); have Kd_6 := hide (keep_below (unhide Kd_5) hBW3); have Kc_6 := hide (keep_below (unhide Kc_5) hBW3); have Ka_6 := hide (keep_below (unhide Ka_5) hBW3); have Kf1_6 := hide (keep_below (unhide Kf1_5) hBW3); clear HX_5 Kd_5 Kc_5 Ka_5 Kf1_5)
  obtain ⟨TB, eTB⟩ : ∃ X, w3.heap.size = X := ⟨_, rfl⟩
  rw [eTB] at k0_6 k1_6 hld_b hlc_b hla_b hlf1_b ⊢
  have Kb_6 := hide k0_6
  have Kf2_6 := hide k1_6
  clear eTB hBW3 k0_6 k1_6
  have HSS : Hid (∀ W, Below W3.heap.size W3 W → (W.cell? ⟨w.heap.size, 0, none⟩ = some (.bool false) ∧ W.cell? ⟨w.heap.size, 1, none⟩ = some (.bool r0) ∧ W.cell? ⟨w.heap.size, 2, none⟩ = some (.bool r1) ∧ W.cell? ⟨w.heap.size, 3, none⟩ = some (.int .i64 t0) ∧ W.cell? ⟨w.heap.size, 4, none⟩ = some (.int .i64 t1) ∧ W.cell? ⟨w.heap.size, 5, none⟩ = some (.int .i64 u0) ∧ W.cell? ⟨w.heap.size, 6, none⟩ = some (.int .i64 u1)) ∧ (W.cell? ⟨TC, 0, none⟩ = some (.int .i64 0) ∧ W.cell? ⟨TC, 1, none⟩ = some (.int .i64 0)) ∧ Below W3.heap.size W3 W) := fun W hW => ⟨(block7 (keep_below (unhide Kd_6) hW)).1, ⟨(block2 (keep_below (unhide Kc_6) hW)).1, (block2 (keep_below (unhide Kc_6) hW)).2.1⟩, hW⟩
  obtain ⟨⟨p0, p1, p2, p3, p4, p5, p6⟩, ⟨q0, q1⟩, -⟩ := unhide HSS _ (Below.refl _ _)
  go_wp2_with fail
  go_region_held3 (fun W => (W.cell? ⟨w.heap.size, 0, none⟩ = some (.bool false) ∧ W.cell? ⟨w.heap.size, 1, none⟩ = some (.bool r0) ∧ W.cell? ⟨w.heap.size, 2, none⟩ = some (.bool r1) ∧ W.cell? ⟨w.heap.size, 3, none⟩ = some (.int .i64 t0) ∧ W.cell? ⟨w.heap.size, 4, none⟩ = some (.int .i64 t1) ∧ W.cell? ⟨w.heap.size, 5, none⟩ = some (.int .i64 u0) ∧ W.cell? ⟨w.heap.size, 6, none⟩ = some (.int .i64 u1)) ∧ (W.cell? ⟨TC, 0, none⟩ = some (.int .i64 0) ∧ W.cell? ⟨TC, 1, none⟩ = some (.int .i64 0)) ∧ Below W3.heap.size W3 W)
    (first | with_reducible exact unhide HSS _ (Below.refl _ _) | with_reducible exact unhide HSS _ (Below.refl _ _).drew | with_reducible exact unhide HSS _ (unhide HY7) | with_reducible exact unhide HSS _ (unhide HY8))
    (first | (go_at_call 9; refine (begun_any _).mono ?_; rintro e w4 ⟨rfl, hb7⟩; have HY7 : Hid (Below W3.heap.size W3 w4) := Below.next (by go_split_ands; assumption) hb7 (Nat.le_refl _); clear hb7) | (go_at_call 10; refine (unhide HDF _).mono ?_; rintro e w5 ⟨rfl, hb8⟩; have HY8 : Hid (Below W3.heap.size W3 w5) := Below.next (by go_split_ands; assumption) hb8 (Nat.le_refl _); clear hb8))
  clear p0 p1 p2 p3 p4 p5 p6 q0 q1 HSS HDF
  (have HX_7 := hide (Below.next (unhide HX_6) (unhide HY8) (by first | exact Nat.le_refl _ | (have := unhide HBA; omega))); have Kd_7 := hide (keep_below (unhide Kd_6) (unhide HY8)); have Kc_7 := hide (keep_below (unhide Kc_6) (unhide HY8)); have Ka_7 := hide (keep_below (unhide Ka_6) (unhide HY8)); have Kf1_7 := hide (keep_below (unhide Kf1_6) (unhide HY8)); have Kb_7 := hide (keep_below (unhide Kb_6) (unhide HY8)); have Kf2_7 := hide (keep_below (unhide Kf2_6) (unhide HY8)); clear HX_6 Kd_6 Kc_6 Ka_6 Kf1_6 Kb_6 Kf2_6)
  clear HY7 HY8
  obtain ⟨⟨p0, p1, p2, p3, p4, p5, p6⟩, ⟨pf0, pf1, pf2, pf3, pf4, pf5, pf6⟩, pl⟩ := block7 (unhide Kd_7)
  go_upto_region 7 with (go_at_call 11; refine (unhide HWF _).mono ?_; rintro e w6 ⟨rfl, hb6⟩; have HX_8 := hide (Below.next (unhide HX_7) hb6 (by first | exact Nat.le_refl _ | (have := unhide HBA; omega))); have Kd_8 := hide (keep_below (unhide Kd_7) hb6); have Kc_8 := hide (keep_below (unhide Kc_7) hb6); have Ka_8 := hide (keep_below (unhide Ka_7) hb6); have Kf1_8 := hide (keep_below (unhide Kf1_7) hb6); have Kb_8 := hide (keep_below (unhide Kb_7) hb6); have Kf2_8 := hide (keep_below (unhide Kf2_7) hb6); clear HX_7 Kd_7 Kc_7 Ka_7 Kf1_7 Kb_7 Kf2_7; clear hb6 HWF p0 p1 p2 p3 p4 p5 p6 pf0 pf1 pf2 pf3 pf4 pf5 pf6 pl)
  have HX_9 := hide ((unhide HX_8).alloc (Nat.le_trans (show w.heap.size ≤ w.heap.size from Nat.le_refl _) (unhide HX_8).size) (.cells #[.int .i64 0, .int .i64 0] 27))
  have Kd_9 := hide (keep_alloc (unhide Kd_8) (.cells #[.int .i64 0, .int .i64 0] 27))
  have Kc_9 := hide (keep_alloc (unhide Kc_8) (.cells #[.int .i64 0, .int .i64 0] 27))
  have Ka_9 := hide (keep_alloc (unhide Ka_8) (.cells #[.int .i64 0, .int .i64 0] 27))
  have Kf1_9 := hide (keep_alloc (unhide Kf1_8) (.cells #[.int .i64 0, .int .i64 0] 27))
  have Kb_9 := hide (keep_alloc (unhide Kb_8) (.cells #[.int .i64 0, .int .i64 0] 27))
  have Kf2_9 := hide (keep_alloc (unhide Kf2_8) (.cells #[.int .i64 0, .int .i64 0] 27))
  have Kv_9 := hide (new_block w6 (.cells #[.int .i64 0, .int .i64 0] 27))
  have hld_v : w.heap.size < w6.heap.size := size_of (unhide Kd_8)
  have hlc_v : TC < w6.heap.size := size_of (unhide Kc_8)
  have hla_v : TA < w6.heap.size := size_of (unhide Ka_8)
  have hlf1_v : TA + 1 < w6.heap.size := size_of (unhide Kf1_8)
  have hlb_v : TB < w6.heap.size := size_of (unhide Kb_8)
  have hlf2_v : TB + 1 < w6.heap.size := size_of (unhide Kf2_8)
  obtain ⟨TV, eTV⟩ : ∃ X, w6.heap.size = X := ⟨_, rfl⟩
  obtain ⟨W5, eW5⟩ : ∃ X, w6.alloc (.cells #[.int .i64 0, .int .i64 0] 27) = X := ⟨_, rfl⟩
  rw [eTV, eW5] at Kv_9; rw [eW5] at HX_9 Kd_9 Kc_9 Ka_9 Kf1_9 Kb_9 Kf2_9; rw [eTV] at hld_v hlc_v hla_v hlf1_v hlb_v hlf2_v; rw [eTV, eW5]
  clear eTV eW5 HX_8 Kd_8 Kc_8 Ka_8 Kf1_8 Kb_8 Kf2_8
  obtain ⟨v0, v1, vf0, vf1, vl⟩ := block2 (unhide Kv_9)
  go_upto_region 8 with fail
  clear v0 v1 vf0 vf1 vl
  have HX_10 := hide ((unhide HX_9).alloc (Nat.le_trans (show w.heap.size ≤ w.heap.size from Nat.le_refl _) (unhide HX_9).size) (.cells #[.int .i64 0, .int .i64 0] 27))
  have Kd_10 := hide (keep_alloc (unhide Kd_9) (.cells #[.int .i64 0, .int .i64 0] 27))
  have Kc_10 := hide (keep_alloc (unhide Kc_9) (.cells #[.int .i64 0, .int .i64 0] 27))
  have Ka_10 := hide (keep_alloc (unhide Ka_9) (.cells #[.int .i64 0, .int .i64 0] 27))
  have Kf1_10 := hide (keep_alloc (unhide Kf1_9) (.cells #[.int .i64 0, .int .i64 0] 27))
  have Kb_10 := hide (keep_alloc (unhide Kb_9) (.cells #[.int .i64 0, .int .i64 0] 27))
  have Kf2_10 := hide (keep_alloc (unhide Kf2_9) (.cells #[.int .i64 0, .int .i64 0] 27))
  have Kv_10 := hide (keep_alloc (unhide Kv_9) (.cells #[.int .i64 0, .int .i64 0] 27))
  have Kw_10 := hide (new_block W5 (.cells #[.int .i64 0, .int .i64 0] 27))
  have hld_w : w.heap.size < W5.heap.size := size_of (unhide Kd_9)
  have hlc_w : TC < W5.heap.size := size_of (unhide Kc_9)
  have hla_w : TA < W5.heap.size := size_of (unhide Ka_9)
  have hlf1_w : TA + 1 < W5.heap.size := size_of (unhide Kf1_9)
  have hlb_w : TB < W5.heap.size := size_of (unhide Kb_9)
  have hlf2_w : TB + 1 < W5.heap.size := size_of (unhide Kf2_9)
  have hlv_w : TV < W5.heap.size := size_of (unhide Kv_9)
  obtain ⟨TW, eTW⟩ : ∃ X, W5.heap.size = X := ⟨_, rfl⟩
  obtain ⟨W6, eW6⟩ : ∃ X, W5.alloc (.cells #[.int .i64 0, .int .i64 0] 27) = X := ⟨_, rfl⟩
  rw [eTW, eW6] at Kw_10; rw [eW6] at HX_10 Kd_10 Kc_10 Ka_10 Kf1_10 Kb_10 Kf2_10 Kv_10; rw [eTW] at hld_w hlc_w hla_w hlf1_w hlb_w hlf2_w hlv_w; rw [eTW, eW6]
  clear eTW eW6 HX_9 Kd_9 Kc_9 Ka_9 Kf1_9 Kb_9 Kf2_9 Kv_9
  obtain ⟨x0, x1, xf0, xf1, xl⟩ := block2 (unhide Kw_10)
  obtain ⟨⟨p0, p1, p2, p3, p4, p5, p6⟩, ⟨pf0, pf1, pf2, pf3, pf4, pf5, pf6⟩, pl⟩ := block7 (unhide Kd_10)
  go_upto_region 12 with (go_at_call 12; refine (f_any _ _ _).mono ?_; rintro e w7 ⟨rfl, hb7⟩; have HX_11 := hide (Below.next (unhide HX_10) hb7 (by first | exact Nat.le_refl _ | (have := unhide HBA; omega))); have Kd_11 := hide (keep_below (unhide Kd_10) hb7); have Kc_11 := hide (keep_below (unhide Kc_10) hb7); have Ka_11 := hide (keep_below (unhide Ka_10) hb7); have Kf1_11 := hide (keep_below (unhide Kf1_10) hb7); have Kb_11 := hide (keep_below (unhide Kb_10) hb7); have Kf2_11 := hide (keep_below (unhide Kf2_10) hb7); have Kv_11 := hide (keep_below (unhide Kv_10) hb7); have Kw_11 := hide (keep_below (unhide Kw_10) hb7); clear HX_10 Kd_10 Kc_10 Ka_10 Kf1_10 Kb_10 Kf2_10 Kv_10 Kw_10; clear hb7 p0 p1 p2 p3 p4 p5 p6 pf0 pf1 pf2 pf3 pf4 pf5 pf6 pl x0 x1 xf0 xf1 xl; obtain ⟨x0, x1, xf0, xf1, xl⟩ := block2 (unhide Kw_11))
  clear x0 x1 xf0 xf1 xl
  have HX_12 := hide (put2_below (y0 := .int .i64 11) (y1 := .int .i64 (-1)) (unhide HX_11) (show w.heap.size ≤ TW by first | omega | (have := unhide HBA; omega)))
  have Kd_12 := hide ((put2_keep (y0 := .int .i64 11) (y1 := .int .i64 (-1)) (show w.heap.size ≠ TW by omega)).trans (unhide Kd_11))
  have Kc_12 := hide ((put2_keep (y0 := .int .i64 11) (y1 := .int .i64 (-1)) (show TC ≠ TW by omega)).trans (unhide Kc_11))
  have Ka_12 := hide ((put2_keep (y0 := .int .i64 11) (y1 := .int .i64 (-1)) (show TA ≠ TW by omega)).trans (unhide Ka_11))
  have Kf1_12 := hide ((put2_keep (y0 := .int .i64 11) (y1 := .int .i64 (-1)) (show TA + 1 ≠ TW by omega)).trans (unhide Kf1_11))
  have Kb_12 := hide ((put2_keep (y0 := .int .i64 11) (y1 := .int .i64 (-1)) (show TB ≠ TW by omega)).trans (unhide Kb_11))
  have Kf2_12 := hide ((put2_keep (y0 := .int .i64 11) (y1 := .int .i64 (-1)) (show TB + 1 ≠ TW by omega)).trans (unhide Kf2_11))
  have Kv_12 := hide ((put2_keep (y0 := .int .i64 11) (y1 := .int .i64 (-1)) (show TV ≠ TW by omega)).trans (unhide Kv_11))
  have Kw_12 := hide (put2_new (y0 := .int .i64 11) (y1 := .int .i64 (-1)) (unhide Kw_11))
  obtain ⟨W7, eW7⟩ : ∃ X, put2 w7 (TW) (.int .i64 11) (.int .i64 (-1)) = X := ⟨_, rfl⟩
  rw [eW7] at HX_12 Kd_12 Kc_12 Ka_12 Kf1_12 Kb_12 Kf2_12 Kv_12 Kw_12
  have eW72 : ((w7).setCell ⟨TW, 0, none⟩ (.int .i64 11)).setCell ⟨TW, 1, none⟩ (.int .i64 (-1)) = W7 := eW7
  rw [eW72]
  clear eW7 eW72 HX_11 Kd_11 Kc_11 Ka_11 Kf1_11 Kb_11 Kf2_11 Kv_11 Kw_11
  obtain ⟨x0, x1, xf0, xf1, xl⟩ := block2 (unhide Kw_12)
  obtain ⟨⟨p0, p1, p2, p3, p4, p5, p6⟩, ⟨pf0, pf1, pf2, pf3, pf4, pf5, pf6⟩, pl⟩ := block7 (unhide Kd_12)
  obtain ⟨e0, e1, ef0, ef1, el⟩ := block2 (unhide Kf1_12)
  go_upto_region 17 with fail
  clear x0 x1 xf0 xf1 xl p0 p1 p2 p3 p4 p5 p6 pf0 pf1 pf2 pf3 pf4 pf5 pf6 pl e0 e1 ef0 ef1 el
  have HX_13 := hide ((unhide HX_12).alloc (Nat.le_trans (show w.heap.size ≤ w.heap.size from Nat.le_refl _) (unhide HX_12).size) (.cells #[.bool false, .bool r0, .bool r1, .int .i64 t0, .int .i64 t1, .int .i64 u0, .int .i64 u1] 25))
  have Kd_13 := hide (keep_alloc (unhide Kd_12) (.cells #[.bool false, .bool r0, .bool r1, .int .i64 t0, .int .i64 t1, .int .i64 u0, .int .i64 u1] 25))
  have Kc_13 := hide (keep_alloc (unhide Kc_12) (.cells #[.bool false, .bool r0, .bool r1, .int .i64 t0, .int .i64 t1, .int .i64 u0, .int .i64 u1] 25))
  have Ka_13 := hide (keep_alloc (unhide Ka_12) (.cells #[.bool false, .bool r0, .bool r1, .int .i64 t0, .int .i64 t1, .int .i64 u0, .int .i64 u1] 25))
  have Kf1_13 := hide (keep_alloc (unhide Kf1_12) (.cells #[.bool false, .bool r0, .bool r1, .int .i64 t0, .int .i64 t1, .int .i64 u0, .int .i64 u1] 25))
  have Kb_13 := hide (keep_alloc (unhide Kb_12) (.cells #[.bool false, .bool r0, .bool r1, .int .i64 t0, .int .i64 t1, .int .i64 u0, .int .i64 u1] 25))
  have Kf2_13 := hide (keep_alloc (unhide Kf2_12) (.cells #[.bool false, .bool r0, .bool r1, .int .i64 t0, .int .i64 t1, .int .i64 u0, .int .i64 u1] 25))
  have Kv_13 := hide (keep_alloc (unhide Kv_12) (.cells #[.bool false, .bool r0, .bool r1, .int .i64 t0, .int .i64 t1, .int .i64 u0, .int .i64 u1] 25))
  have Kw_13 := hide (keep_alloc (unhide Kw_12) (.cells #[.bool false, .bool r0, .bool r1, .int .i64 t0, .int .i64 t1, .int .i64 u0, .int .i64 u1] 25))
  have Kn_13 := hide (new_block W7 (.cells #[.bool false, .bool r0, .bool r1, .int .i64 t0, .int .i64 t1, .int .i64 u0, .int .i64 u1] 25))
  have hld_n : w.heap.size < W7.heap.size := size_of (unhide Kd_12)
  have hlc_n : TC < W7.heap.size := size_of (unhide Kc_12)
  have hla_n : TA < W7.heap.size := size_of (unhide Ka_12)
  have hlf1_n : TA + 1 < W7.heap.size := size_of (unhide Kf1_12)
  have hlb_n : TB < W7.heap.size := size_of (unhide Kb_12)
  have hlf2_n : TB + 1 < W7.heap.size := size_of (unhide Kf2_12)
  have hlv_n : TV < W7.heap.size := size_of (unhide Kv_12)
  have hlw_n : TW < W7.heap.size := size_of (unhide Kw_12)
  obtain ⟨TN, eTN⟩ : ∃ X, W7.heap.size = X := ⟨_, rfl⟩
  obtain ⟨W8, eW8⟩ : ∃ X, W7.alloc (.cells #[.bool false, .bool r0, .bool r1, .int .i64 t0, .int .i64 t1, .int .i64 u0, .int .i64 u1] 25) = X := ⟨_, rfl⟩
  rw [eTN, eW8] at Kn_13; rw [eW8] at HX_13 Kd_13 Kc_13 Ka_13 Kf1_13 Kb_13 Kf2_13 Kv_13 Kw_13; rw [eTN] at hld_n hlc_n hla_n hlf1_n hlb_n hlf2_n hlv_n hlw_n; rw [eTN, eW8]
  clear eTN eW8 HX_12 Kd_12 Kc_12 Ka_12 Kf1_12 Kb_12 Kf2_12 Kv_12 Kw_12
  obtain ⟨⟨n0, n1, n2, n3, n4, n5, n6⟩, ⟨nf0, nf1, nf2, nf3, nf4, nf5, nf6⟩, nl⟩ := block7 (unhide Kn_13)
  obtain ⟨x0, x1, xf0, xf1, xl⟩ := block2 (unhide Kw_13)
  obtain ⟨⟨p0, p1, p2, p3, p4, p5, p6⟩, ⟨pf0, pf1, pf2, pf3, pf4, pf5, pf6⟩, pl⟩ := block7 (unhide Kd_13)
  obtain ⟨⟨a0, a1, a2, a3, a4, a5, a6⟩, ⟨af0, af1, af2, af3, af4, af5, af6⟩, al⟩ := block7 (unhide Ka_13)
  obtain ⟨⟨b0, b1, b2, b3, b4, b5, b6⟩, ⟨bf0, bf1, bf2, bf3, bf4, bf5, bf6⟩, bl⟩ := block7 (unhide Kb_13)
  obtain ⟨e0, e1, ef0, ef1, el⟩ := block2 (unhide Kf2_13)
  obtain ⟨v0, v1, vf0, vf1, vl⟩ := block2 (unhide Kv_13)
  have ned : w.heap.size ≠ TN := Nat.ne_of_lt hld_n
  have nfd : TN ≠ w.heap.size := Nat.ne_of_gt hld_n
  have nea : TA ≠ TN := Nat.ne_of_lt hla_n
  have nfa : TN ≠ TA := Nat.ne_of_gt hla_n
  have neb : TB ≠ TN := Nat.ne_of_lt hlb_n
  have nfb : TN ≠ TB := Nat.ne_of_gt hlb_n
  have nef2 : TB + 1 ≠ TN := Nat.ne_of_lt hlf2_n
  have nff2 : TN ≠ TB + 1 := Nat.ne_of_gt hlf2_n
  have nev : TV ≠ TN := Nat.ne_of_lt hlv_n
  have nfv : TN ≠ TV := Nat.ne_of_gt hlv_n
  have new : TW ≠ TN := Nat.ne_of_lt hlw_n
  have nfw : TN ≠ TW := Nat.ne_of_gt hlw_n
  go_upto_region 28 with fail
  clear n0 n1 n2 n3 n4 n5 n6 nf0 nf1 nf2 nf3 nf4 nf5 nf6 nl x0 x1 xf0 xf1 xl p0 p1 p2 p3 p4 p5 p6 pf0 pf1 pf2 pf3 pf4 pf5 pf6 pl a0 a1 a2 a3 a4 a5 a6 af0 af1 af2 af3 af4 af5 af6 al b0 b1 b2 b3 b4 b5 b6 bf0 bf1 bf2 bf3 bf4 bf5 bf6 bl e0 e1 ef0 ef1 el v0 v1 vf0 vf1 vl
  have HX_14 := hide (put7_below (y0 := .bool false) (y1 := .bool false) (y2 := .bool false) (y3 := .int .i64 0) (y4 := .int .i64 0) (y5 := .int .i64 0) (y6 := .int .i64 0) (unhide HX_13) (show w.heap.size ≤ TN by first | omega | (have := unhide HBA; omega)))
  have Kd_14 := hide ((put7_keep (y0 := .bool false) (y1 := .bool false) (y2 := .bool false) (y3 := .int .i64 0) (y4 := .int .i64 0) (y5 := .int .i64 0) (y6 := .int .i64 0) (show w.heap.size ≠ TN by omega)).trans (unhide Kd_13))
  have Kc_14 := hide ((put7_keep (y0 := .bool false) (y1 := .bool false) (y2 := .bool false) (y3 := .int .i64 0) (y4 := .int .i64 0) (y5 := .int .i64 0) (y6 := .int .i64 0) (show TC ≠ TN by omega)).trans (unhide Kc_13))
  have Ka_14 := hide ((put7_keep (y0 := .bool false) (y1 := .bool false) (y2 := .bool false) (y3 := .int .i64 0) (y4 := .int .i64 0) (y5 := .int .i64 0) (y6 := .int .i64 0) (show TA ≠ TN by omega)).trans (unhide Ka_13))
  have Kf1_14 := hide ((put7_keep (y0 := .bool false) (y1 := .bool false) (y2 := .bool false) (y3 := .int .i64 0) (y4 := .int .i64 0) (y5 := .int .i64 0) (y6 := .int .i64 0) (show TA + 1 ≠ TN by omega)).trans (unhide Kf1_13))
  have Kb_14 := hide ((put7_keep (y0 := .bool false) (y1 := .bool false) (y2 := .bool false) (y3 := .int .i64 0) (y4 := .int .i64 0) (y5 := .int .i64 0) (y6 := .int .i64 0) (show TB ≠ TN by omega)).trans (unhide Kb_13))
  have Kf2_14 := hide ((put7_keep (y0 := .bool false) (y1 := .bool false) (y2 := .bool false) (y3 := .int .i64 0) (y4 := .int .i64 0) (y5 := .int .i64 0) (y6 := .int .i64 0) (show TB + 1 ≠ TN by omega)).trans (unhide Kf2_13))
  have Kv_14 := hide ((put7_keep (y0 := .bool false) (y1 := .bool false) (y2 := .bool false) (y3 := .int .i64 0) (y4 := .int .i64 0) (y5 := .int .i64 0) (y6 := .int .i64 0) (show TV ≠ TN by omega)).trans (unhide Kv_13))
  have Kw_14 := hide ((put7_keep (y0 := .bool false) (y1 := .bool false) (y2 := .bool false) (y3 := .int .i64 0) (y4 := .int .i64 0) (y5 := .int .i64 0) (y6 := .int .i64 0) (show TW ≠ TN by omega)).trans (unhide Kw_13))
  have Kn_14 := hide (put7_new (y0 := .bool false) (y1 := .bool false) (y2 := .bool false) (y3 := .int .i64 0) (y4 := .int .i64 0) (y5 := .int .i64 0) (y6 := .int .i64 0) (unhide Kn_13))
  obtain ⟨W9, eW9⟩ : ∃ X, put7 W8 (TN) (.bool false) (.bool false) (.bool false) (.int .i64 0) (.int .i64 0) (.int .i64 0) (.int .i64 0) = X := ⟨_, rfl⟩
  rw [eW9] at HX_14 Kd_14 Kc_14 Ka_14 Kf1_14 Kb_14 Kf2_14 Kv_14 Kw_14 Kn_14
  have eW92 : (((((((W8).setCell ⟨TN, 0, none⟩ (.bool false)).setCell ⟨TN, 1, none⟩ (.bool false)).setCell ⟨TN, 2, none⟩ (.bool false)).setCell ⟨TN, 3, none⟩ (.int .i64 0)).setCell ⟨TN, 4, none⟩ (.int .i64 0)).setCell ⟨TN, 5, none⟩ (.int .i64 0)).setCell ⟨TN, 6, none⟩ (.int .i64 0) = W9 := eW9
  rw [eW92]
  clear eW9 eW92 HX_13 Kd_13 Kc_13 Ka_13 Kf1_13 Kb_13 Kf2_13 Kv_13 Kw_13 Kn_13
  obtain ⟨⟨n0, n1, n2, n3, n4, n5, n6⟩, ⟨nf0, nf1, nf2, nf3, nf4, nf5, nf6⟩, nl⟩ := block7 (unhide Kn_14)
  obtain ⟨⟨p0, p1, p2, p3, p4, p5, p6⟩, ⟨pf0, pf1, pf2, pf3, pf4, pf5, pf6⟩, pl⟩ := block7 (unhide Kd_14)
  obtain ⟨⟨a0, a1, a2, a3, a4, a5, a6⟩, ⟨af0, af1, af2, af3, af4, af5, af6⟩, al⟩ := block7 (unhide Ka_14)
  obtain ⟨e0, e1, ef0, ef1, el⟩ := block2 (unhide Kf2_14)
  obtain ⟨v0, v1, vf0, vf1, vl⟩ := block2 (unhide Kv_14)
  go_upto_region 33 with fail
  clear n0 n1 n2 n3 n4 n5 n6 nf0 nf1 nf2 nf3 nf4 nf5 nf6 nl p0 p1 p2 p3 p4 p5 p6 pf0 pf1 pf2 pf3 pf4 pf5 pf6 pl a0 a1 a2 a3 a4 a5 a6 af0 af1 af2 af3 af4 af5 af6 al e0 e1 ef0 ef1 el v0 v1 vf0 vf1 vl
  have HX_15 := hide (put7_below (y0 := .bool false) (y1 := .bool r0) (y2 := .bool r1) (y3 := .int .i64 t0) (y4 := .int .i64 t1) (y5 := .int .i64 u0) (y6 := .int .i64 u1) (unhide HX_14) (show w.heap.size ≤ TN by first | omega | (have := unhide HBA; omega)))
  have Kd_15 := hide ((put7_keep (y0 := .bool false) (y1 := .bool r0) (y2 := .bool r1) (y3 := .int .i64 t0) (y4 := .int .i64 t1) (y5 := .int .i64 u0) (y6 := .int .i64 u1) (show w.heap.size ≠ TN by omega)).trans (unhide Kd_14))
  have Kc_15 := hide ((put7_keep (y0 := .bool false) (y1 := .bool r0) (y2 := .bool r1) (y3 := .int .i64 t0) (y4 := .int .i64 t1) (y5 := .int .i64 u0) (y6 := .int .i64 u1) (show TC ≠ TN by omega)).trans (unhide Kc_14))
  have Ka_15 := hide ((put7_keep (y0 := .bool false) (y1 := .bool r0) (y2 := .bool r1) (y3 := .int .i64 t0) (y4 := .int .i64 t1) (y5 := .int .i64 u0) (y6 := .int .i64 u1) (show TA ≠ TN by omega)).trans (unhide Ka_14))
  have Kf1_15 := hide ((put7_keep (y0 := .bool false) (y1 := .bool r0) (y2 := .bool r1) (y3 := .int .i64 t0) (y4 := .int .i64 t1) (y5 := .int .i64 u0) (y6 := .int .i64 u1) (show TA + 1 ≠ TN by omega)).trans (unhide Kf1_14))
  have Kb_15 := hide ((put7_keep (y0 := .bool false) (y1 := .bool r0) (y2 := .bool r1) (y3 := .int .i64 t0) (y4 := .int .i64 t1) (y5 := .int .i64 u0) (y6 := .int .i64 u1) (show TB ≠ TN by omega)).trans (unhide Kb_14))
  have Kf2_15 := hide ((put7_keep (y0 := .bool false) (y1 := .bool r0) (y2 := .bool r1) (y3 := .int .i64 t0) (y4 := .int .i64 t1) (y5 := .int .i64 u0) (y6 := .int .i64 u1) (show TB + 1 ≠ TN by omega)).trans (unhide Kf2_14))
  have Kv_15 := hide ((put7_keep (y0 := .bool false) (y1 := .bool r0) (y2 := .bool r1) (y3 := .int .i64 t0) (y4 := .int .i64 t1) (y5 := .int .i64 u0) (y6 := .int .i64 u1) (show TV ≠ TN by omega)).trans (unhide Kv_14))
  have Kw_15 := hide ((put7_keep (y0 := .bool false) (y1 := .bool r0) (y2 := .bool r1) (y3 := .int .i64 t0) (y4 := .int .i64 t1) (y5 := .int .i64 u0) (y6 := .int .i64 u1) (show TW ≠ TN by omega)).trans (unhide Kw_14))
  have Kn_15 := hide (put7_new (y0 := .bool false) (y1 := .bool r0) (y2 := .bool r1) (y3 := .int .i64 t0) (y4 := .int .i64 t1) (y5 := .int .i64 u0) (y6 := .int .i64 u1) (unhide Kn_14))
  obtain ⟨W10, eW10⟩ : ∃ X, put7 W9 (TN) (.bool false) (.bool r0) (.bool r1) (.int .i64 t0) (.int .i64 t1) (.int .i64 u0) (.int .i64 u1) = X := ⟨_, rfl⟩
  rw [eW10] at HX_15 Kd_15 Kc_15 Ka_15 Kf1_15 Kb_15 Kf2_15 Kv_15 Kw_15 Kn_15
  have eW102 : (((((((W9).setCell ⟨TN, 0, none⟩ (.bool false)).setCell ⟨TN, 1, none⟩ (.bool r0)).setCell ⟨TN, 2, none⟩ (.bool r1)).setCell ⟨TN, 3, none⟩ (.int .i64 t0)).setCell ⟨TN, 4, none⟩ (.int .i64 t1)).setCell ⟨TN, 5, none⟩ (.int .i64 u0)).setCell ⟨TN, 6, none⟩ (.int .i64 u1) = W10 := eW10
  rw [eW102]
  clear eW10 eW102 HX_14 Kd_14 Kc_14 Ka_14 Kf1_14 Kb_14 Kf2_14 Kv_14 Kw_14 Kn_14
  obtain ⟨⟨n0, n1, n2, n3, n4, n5, n6⟩, ⟨nf0, nf1, nf2, nf3, nf4, nf5, nf6⟩, nl⟩ := block7 (unhide Kn_15)
  obtain ⟨⟨p0, p1, p2, p3, p4, p5, p6⟩, ⟨pf0, pf1, pf2, pf3, pf4, pf5, pf6⟩, pl⟩ := block7 (unhide Kd_15)
  obtain ⟨⟨b0, b1, b2, b3, b4, b5, b6⟩, ⟨bf0, bf1, bf2, bf3, bf4, bf5, bf6⟩, bl⟩ := block7 (unhide Kb_15)
  go_wp2_with fail
  go_ret
  exact ⟨rfl, (by repeat (first | with_reducible exact unhide HX_15 | with_reducible refine drew_below ?_ | (with_reducible refine below_set ?_ (by omega) _)))⟩

end Go.Proofs.Ytmghfedlpndpiaa
