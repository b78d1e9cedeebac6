/-
  poll.leave, poll.Wait.
-/
import Derived.Test.YtmghfedlpndpiaaI
namespace Go.Proofs.Ytmghfedlpndpiaa
open Go.RowKit

theorem drew_below {B : Nat} {w W : World} (h : Below B w W) : Below B w W.drew := h.drew

set_option maxRecDepth 100000 in
set_option maxHeartbeats 2000000 in
theorem leave0_any (w : World) (c r0 r1 : Bool) (t0 t1 u0 u1 : Int)  :
    Calls Try.prog 22 #[.agg #[.bool c, .bool r0, .bool r1, .int .i64 t0, .int .i64 t1, .int .i64 u0, .int .i64 u1], .int .i64 0] w fun e w' => e = .returned (.tuple #[.agg #[.bool c, .bool r0, .bool r1, .int .i64 0, .int .i64 t1, .int .i64 u0, .int .i64 u1], .int .i64 t0]) ∧ Below w.heap.size w w' := by
  obtain ⟨W0, e0, hB, k0, k1⟩ := two_new w (.cells #[.bool c, .bool r0, .bool r1, .int .i64 t0, .int .i64 t1, .int .i64 u0, .int .i64 u1] 25) (.cells #[.bool false, .bool false, .bool false, .int .i64 0, .int .i64 0, .int .i64 0, .int .i64 0] 25)
  have HX := hide hB; have HE := hide e0; have HD := hide k0; have HZ := hide k1
  clear hB e0 k0 k1
  go_enter Try.func22, Try.ntmps22
  go_upto_region 1 with fail
  rw [unhide HE]
  clear HE
  obtain ⟨⟨p0, p1, p2, p3, p4, p5, p6⟩, ⟨pf0, pf1, pf2, pf3, pf4, pf5, pf6⟩, pl⟩ := block7 (unhide HD)
  obtain ⟨⟨z0, z1, z2, z3, z4, z5, z6⟩, ⟨zf0, zf1, zf2, zf3, zf4, zf5, zf6⟩, zl⟩ := block7 (unhide HZ)
  go_wp2_with fail
  exact bodyPost_ret (v := .tuple #[.agg #[.bool c, .bool r0, .bool r1, .int .i64 0, .int .i64 t1, .int .i64 u0, .int .i64 u1], .int .i64 t0]) (by simp [results, Try.results22, go_sem, z0, z1, z2, z3, z4, z5, z6]) rfl ⟨rfl, (by repeat (first | with_reducible exact unhide HX | with_reducible refine drew_below ?_ | (with_reducible refine below_set ?_ (by omega) _)))⟩

set_option maxRecDepth 100000 in
set_option maxHeartbeats 2000000 in
theorem leave1_any (w : World) (c r0 r1 : Bool) (t0 t1 u0 u1 : Int)  :
    Calls Try.prog 22 #[.agg #[.bool c, .bool r0, .bool r1, .int .i64 t0, .int .i64 t1, .int .i64 u0, .int .i64 u1], .int .i64 1] w fun e w' => e = .returned (.tuple #[.agg #[.bool c, .bool r0, .bool r1, .int .i64 t0, .int .i64 0, .int .i64 u0, .int .i64 u1], .int .i64 t1]) ∧ Below w.heap.size w w' := by
  obtain ⟨W0, e0, hB, k0, k1⟩ := two_new w (.cells #[.bool c, .bool r0, .bool r1, .int .i64 t0, .int .i64 t1, .int .i64 u0, .int .i64 u1] 25) (.cells #[.bool false, .bool false, .bool false, .int .i64 0, .int .i64 0, .int .i64 0, .int .i64 0] 25)
  have HX := hide hB; have HE := hide e0; have HD := hide k0; have HZ := hide k1
  clear hB e0 k0 k1
  go_enter Try.func22, Try.ntmps22
  go_upto_region 1 with fail
  rw [unhide HE]
  clear HE
  obtain ⟨⟨p0, p1, p2, p3, p4, p5, p6⟩, ⟨pf0, pf1, pf2, pf3, pf4, pf5, pf6⟩, pl⟩ := block7 (unhide HD)
  obtain ⟨⟨z0, z1, z2, z3, z4, z5, z6⟩, ⟨zf0, zf1, zf2, zf3, zf4, zf5, zf6⟩, zl⟩ := block7 (unhide HZ)
  go_wp2_with fail
  exact bodyPost_ret (v := .tuple #[.agg #[.bool c, .bool r0, .bool r1, .int .i64 t0, .int .i64 0, .int .i64 u0, .int .i64 u1], .int .i64 t1]) (by simp [results, Try.results22, go_sem, z0, z1, z2, z3, z4, z5, z6]) rfl ⟨rfl, (by repeat (first | with_reducible exact unhide HX | with_reducible refine drew_below ?_ | (with_reducible refine below_set ?_ (by omega) _)))⟩

set_option maxRecDepth 100000 in
set_option maxHeartbeats 2000000 in
theorem wait0_fault (w : World) (c r0 r1 : Bool) (t0 t1 u0 u1 task now C0 C1 F0 F1 : Int) (hC : descF c r0 r1 t0 t1 u0 u1 = (C0, C1)) (hF : waitF (onF (C0, C1) 0) t0 t1 task now = (F0, F1)) (hbad : F0 ≠ 0) :
    Calls Try.prog 7 #[.agg #[.bool c, .bool r0, .bool r1, .int .i64 t0, .int .i64 t1, .int .i64 u0, .int .i64 u1], .int .i64 0, .int .i64 task, .int .i64 now] w fun e w' => e = .returned (.tuple #[.agg #[.bool false, .bool false, .bool false, .int .i64 0, .int .i64 0, .int .i64 0, .int .i64 0], .int .i64 0, .agg #[.int .i64 F0, .int .i64 F1]]) ∧ Below w.heap.size w w' := by
  have HC : Hid (∀ W, Calls Try.prog 19 #[.agg #[.bool c, .bool r0, .bool r1, .int .i64 t0, .int .i64 t1, .int .i64 u0, .int .i64 u1], .int .i64 0, .int .i64 task, .int .i64 now] W fun e w' => e = .returned (.agg #[.int .i64 F0, .int .i64 F1]) ∧ Below W.heap.size W w') := fun W => checkWait0_any W c r0 r1 t0 t1 u0 u1 task now C0 C1 F0 F1 hC hF
  have xc : (F0 != 0) = true := by simpa using hbad
  clear hF hC hbad
  obtain ⟨W0, e0, hB, k0, k1, k2⟩ := three_new w (.cells #[.bool c, .bool r0, .bool r1, .int .i64 t0, .int .i64 t1, .int .i64 u0, .int .i64 u1] 25) (.cells #[.bool false, .bool false, .bool false, .int .i64 0, .int .i64 0, .int .i64 0, .int .i64 0] 25) (.cells #[.int .i64 0, .int .i64 0] 27)
  have HX := hide hB; have HE := hide e0; have HD := hide k0; have HZ := hide k1; have HG := hide k2
  clear hB e0 k0 k1 k2
  go_enter Try.func7, Try.ntmps7
  go_upto_region 1 with fail
  rw [unhide HE]
  clear HE
  obtain ⟨⟨p0, p1, p2, p3, p4, p5, p6⟩, ⟨pf0, pf1, pf2, pf3, pf4, pf5, pf6⟩, pl⟩ := block7 (unhide HD)
  go_upto_region 2 with (go_at_call 19; refine (unhide HC _).mono ?_; rintro e w1 ⟨rfl, hb1⟩; have HX' := hide (Below.next (unhide HX) hb1 (Nat.le_refl _)); have HD' := hide (keep_below (unhide HD) hb1); have HZ' := hide (keep_below (unhide HZ) hb1); have HG' := hide (keep_below (unhide HG) hb1); clear p0 p1 p2 p3 p4 p5 p6 pf0 pf1 pf2 pf3 pf4 pf5 pf6 pl ; clear HX HD HZ HG hb1; have HX := HX'; have HD := HD'; have HZ := HZ'; have HG := HG'; clear HX' HD' HZ' HG')
  obtain ⟨W1, e1, hB1, k1⟩ := one_new w1 (.cells #[.int .i64 F0, .int .i64 F1] 27)
  rw [e1]
  have HX' := hide (Below.next (unhide HX) hB1 (Nat.le_refl _))
  have HD' := hide (keep_below (unhide HD) hB1)
  have HZ' := hide (keep_below (unhide HZ) hB1)
  have HG' := hide (keep_below (unhide HG) hB1)
  have hlD_F := size_of (unhide HD)
  have hlZ_F := size_of (unhide HZ)
  have hlG_F := size_of (unhide HG)
  have HF := hide k1
  clear e1 hB1 k1 HX HD HZ HG
  have HX := HX'; have HD := HD'; have HZ := HZ'; have HG := HG'
  clear HX' HD' HZ' HG'
  obtain ⟨TF, eTF⟩ : ∃ X, w1.heap.size = X := ⟨_, rfl⟩
  rw [eTF] at HF hlD_F hlZ_F hlG_F ⊢
  clear eTF
  obtain ⟨f0, f1, ff0, ff1, fl⟩ := block2 (unhide HF)
  obtain ⟨g0, g1, gf0, gf1, gl⟩ := block2 (unhide HG)
  obtain ⟨⟨p0, p1, p2, p3, p4, p5, p6⟩, ⟨pf0, pf1, pf2, pf3, pf4, pf5, pf6⟩, pl⟩ := block7 (unhide HD)
  obtain ⟨⟨z0, z1, z2, z3, z4, z5, z6⟩, ⟨zf0, zf1, zf2, zf3, zf4, zf5, zf6⟩, zl⟩ := block7 (unhide HZ)
  have uf : w.heap.size + 1 + 1 ≠ TF := by omega
  have uf2 : TF ≠ w.heap.size + 1 + 1 := by omega
  have ug : w.heap.size + 1 ≠ TF := by omega
  have ug2 : TF ≠ w.heap.size + 1 := by omega
  go_upto_region 3 with fail
  go_wp2_with fail
  go_region
  all_goals
    go_wp2_with fail
    exact bodyPost_ret (v := .tuple #[.agg #[.bool false, .bool false, .bool false, .int .i64 0, .int .i64 0, .int .i64 0, .int .i64 0], .int .i64 0, .agg #[.int .i64 F0, .int .i64 F1]]) (by simp [results, Try.results7, go_sem, g0, g1, z0, z1, z2, z3, z4, z5, z6]) rfl ⟨rfl, (by repeat (first | with_reducible exact unhide HX | with_reducible refine drew_below ?_ | (with_reducible refine below_set ?_ (by omega) _)))⟩

set_option maxRecDepth 100000 in
set_option maxHeartbeats 2000000 in
theorem wait0_closed (w : World) (c r0 r1 : Bool) (t0 t1 u0 u1 task now C0 C1 F1 : Int) (hC : descF c r0 r1 t0 t1 u0 u1 = (C0, C1)) (hF : waitF (onF (C0, C1) 0) t0 t1 task now = (0, F1)) (hc : c = true) :
    Calls Try.prog 7 #[.agg #[.bool c, .bool r0, .bool r1, .int .i64 t0, .int .i64 t1, .int .i64 u0, .int .i64 u1], .int .i64 0, .int .i64 task, .int .i64 now] w fun e w' => e = .returned (.tuple #[.agg #[.bool c, .bool r0, .bool r1, .int .i64 t0, .int .i64 t1, .int .i64 u0, .int .i64 u1], .int .i64 3, .agg #[.int .i64 0, .int .i64 0]]) ∧ Below w.heap.size w w' := by
  have HC : Hid (∀ W, Calls Try.prog 19 #[.agg #[.bool c, .bool r0, .bool r1, .int .i64 t0, .int .i64 t1, .int .i64 u0, .int .i64 u1], .int .i64 0, .int .i64 task, .int .i64 now] W fun e w' => e = .returned (.agg #[.int .i64 0, .int .i64 F1]) ∧ Below W.heap.size W w') := fun W => checkWait0_any W c r0 r1 t0 t1 u0 u1 task now C0 C1 0 F1 hC hF
  clear hF hC
  subst hc
  obtain ⟨W0, e0, hB, k0, k1, k2⟩ := three_new w (.cells #[.bool true, .bool r0, .bool r1, .int .i64 t0, .int .i64 t1, .int .i64 u0, .int .i64 u1] 25) (.cells #[.bool false, .bool false, .bool false, .int .i64 0, .int .i64 0, .int .i64 0, .int .i64 0] 25) (.cells #[.int .i64 0, .int .i64 0] 27)
  have HX := hide hB; have HE := hide e0; have HD := hide k0; have HZ := hide k1; have HG := hide k2
  clear hB e0 k0 k1 k2
  go_enter Try.func7, Try.ntmps7
  go_upto_region 1 with fail
  rw [unhide HE]
  clear HE
  obtain ⟨⟨p0, p1, p2, p3, p4, p5, p6⟩, ⟨pf0, pf1, pf2, pf3, pf4, pf5, pf6⟩, pl⟩ := block7 (unhide HD)
  go_upto_region 2 with (go_at_call 19; refine (unhide HC _).mono ?_; rintro e w1 ⟨rfl, hb1⟩; have HX' := hide (Below.next (unhide HX) hb1 (Nat.le_refl _)); have HD' := hide (keep_below (unhide HD) hb1); have HZ' := hide (keep_below (unhide HZ) hb1); have HG' := hide (keep_below (unhide HG) hb1); clear p0 p1 p2 p3 p4 p5 p6 pf0 pf1 pf2 pf3 pf4 pf5 pf6 pl ; clear HX HD HZ HG hb1; have HX := HX'; have HD := HD'; have HZ := HZ'; have HG := HG'; clear HX' HD' HZ' HG')
  obtain ⟨W1, e1, hB1, k1⟩ := one_new w1 (.cells #[.int .i64 0, .int .i64 F1] 27)
  rw [e1]
  have HX' := hide (Below.next (unhide HX) hB1 (Nat.le_refl _))
  have HD' := hide (keep_below (unhide HD) hB1)
  have HZ' := hide (keep_below (unhide HZ) hB1)
  have HG' := hide (keep_below (unhide HG) hB1)
  have hlD_F := size_of (unhide HD)
  have hlZ_F := size_of (unhide HZ)
  have hlG_F := size_of (unhide HG)
  have HF := hide k1
  clear e1 hB1 k1 HX HD HZ HG
  have HX := HX'; have HD := HD'; have HZ := HZ'; have HG := HG'
  clear HX' HD' HZ' HG'
  obtain ⟨TF, eTF⟩ : ∃ X, w1.heap.size = X := ⟨_, rfl⟩
  rw [eTF] at HF hlD_F hlZ_F hlG_F ⊢
  clear eTF
  obtain ⟨f0, f1, ff0, ff1, fl⟩ := block2 (unhide HF)
  obtain ⟨g0, g1, gf0, gf1, gl⟩ := block2 (unhide HG)
  obtain ⟨⟨p0, p1, p2, p3, p4, p5, p6⟩, ⟨pf0, pf1, pf2, pf3, pf4, pf5, pf6⟩, pl⟩ := block7 (unhide HD)
  obtain ⟨⟨z0, z1, z2, z3, z4, z5, z6⟩, ⟨zf0, zf1, zf2, zf3, zf4, zf5, zf6⟩, zl⟩ := block7 (unhide HZ)
  have uf : w.heap.size + 1 + 1 ≠ TF := by omega
  have uf2 : TF ≠ w.heap.size + 1 + 1 := by omega
  have ug : w.heap.size + 1 ≠ TF := by omega
  have ug2 : TF ≠ w.heap.size + 1 := by omega
  go_wp2_with fail
  exact bodyPost_ret (v := .tuple #[.agg #[.bool true, .bool r0, .bool r1, .int .i64 t0, .int .i64 t1, .int .i64 u0, .int .i64 u1], .int .i64 3, .agg #[.int .i64 0, .int .i64 0]]) (by simp [results, Try.results7, go_sem, g0, g1, z0, z1, z2, z3, z4, z5, z6]) rfl ⟨rfl, (by repeat (first | with_reducible exact unhide HX | with_reducible refine drew_below ?_ | (with_reducible refine below_set ?_ (by omega) _)))⟩

set_option maxRecDepth 100000 in
set_option maxHeartbeats 2000000 in
theorem wait0_late (w : World) (c r0 r1 : Bool) (t0 t1 u0 u1 task now C0 C1 F1 : Int) (hC : descF c r0 r1 t0 t1 u0 u1 = (C0, C1)) (hF : waitF (onF (C0, C1) 0) t0 t1 task now = (0, F1)) (hc : c = false) (hl : late u0 now = true) :
    Calls Try.prog 7 #[.agg #[.bool c, .bool r0, .bool r1, .int .i64 t0, .int .i64 t1, .int .i64 u0, .int .i64 u1], .int .i64 0, .int .i64 task, .int .i64 now] w fun e w' => e = .returned (.tuple #[.agg #[.bool c, .bool r0, .bool r1, .int .i64 t0, .int .i64 t1, .int .i64 u0, .int .i64 u1], .int .i64 2, .agg #[.int .i64 0, .int .i64 0]]) ∧ Below w.heap.size w w' := by
  have HC : Hid (∀ W, Calls Try.prog 19 #[.agg #[.bool c, .bool r0, .bool r1, .int .i64 t0, .int .i64 t1, .int .i64 u0, .int .i64 u1], .int .i64 0, .int .i64 task, .int .i64 now] W fun e w' => e = .returned (.agg #[.int .i64 0, .int .i64 F1]) ∧ Below W.heap.size W w') := fun W => checkWait0_any W c r0 r1 t0 t1 u0 u1 task now C0 C1 0 F1 hC hF
  have HL : Hid (∀ W, Calls Try.prog 20 #[.agg #[.bool c, .bool r0, .bool r1, .int .i64 t0, .int .i64 t1, .int .i64 u0, .int .i64 u1], .int .i64 0, .int .i64 now] W fun e w' => e = .returned (.bool (late u0 now)) ∧ Below W.heap.size W w') := fun W => lateOn0_any W c r0 r1 t0 t1 u0 u1 now
  rw [hl] at HL
  clear hl
  clear hF hC
  subst hc
  obtain ⟨W0, e0, hB, k0, k1, k2⟩ := three_new w (.cells #[.bool false, .bool r0, .bool r1, .int .i64 t0, .int .i64 t1, .int .i64 u0, .int .i64 u1] 25) (.cells #[.bool false, .bool false, .bool false, .int .i64 0, .int .i64 0, .int .i64 0, .int .i64 0] 25) (.cells #[.int .i64 0, .int .i64 0] 27)
  have HX := hide hB; have HE := hide e0; have HD := hide k0; have HZ := hide k1; have HG := hide k2
  clear hB e0 k0 k1 k2
  go_enter Try.func7, Try.ntmps7
  go_upto_region 1 with fail
  rw [unhide HE]
  clear HE
  obtain ⟨⟨p0, p1, p2, p3, p4, p5, p6⟩, ⟨pf0, pf1, pf2, pf3, pf4, pf5, pf6⟩, pl⟩ := block7 (unhide HD)
  go_upto_region 2 with (go_at_call 19; refine (unhide HC _).mono ?_; rintro e w1 ⟨rfl, hb1⟩; have HX' := hide (Below.next (unhide HX) hb1 (Nat.le_refl _)); have HD' := hide (keep_below (unhide HD) hb1); have HZ' := hide (keep_below (unhide HZ) hb1); have HG' := hide (keep_below (unhide HG) hb1); clear p0 p1 p2 p3 p4 p5 p6 pf0 pf1 pf2 pf3 pf4 pf5 pf6 pl ; clear HX HD HZ HG hb1; have HX := HX'; have HD := HD'; have HZ := HZ'; have HG := HG'; clear HX' HD' HZ' HG')
  obtain ⟨W1, e1, hB1, k1⟩ := one_new w1 (.cells #[.int .i64 0, .int .i64 F1] 27)
  rw [e1]
  have HX' := hide (Below.next (unhide HX) hB1 (Nat.le_refl _))
  have HD' := hide (keep_below (unhide HD) hB1)
  have HZ' := hide (keep_below (unhide HZ) hB1)
  have HG' := hide (keep_below (unhide HG) hB1)
  have hlD_F := size_of (unhide HD)
  have hlZ_F := size_of (unhide HZ)
  have hlG_F := size_of (unhide HG)
  have HF := hide k1
  clear e1 hB1 k1 HX HD HZ HG
  have HX := HX'; have HD := HD'; have HZ := HZ'; have HG := HG'
  clear HX' HD' HZ' HG'
  obtain ⟨TF, eTF⟩ : ∃ X, w1.heap.size = X := ⟨_, rfl⟩
  rw [eTF] at HF hlD_F hlZ_F hlG_F ⊢
  clear eTF
  obtain ⟨f0, f1, ff0, ff1, fl⟩ := block2 (unhide HF)
  obtain ⟨g0, g1, gf0, gf1, gl⟩ := block2 (unhide HG)
  obtain ⟨⟨p0, p1, p2, p3, p4, p5, p6⟩, ⟨pf0, pf1, pf2, pf3, pf4, pf5, pf6⟩, pl⟩ := block7 (unhide HD)
  obtain ⟨⟨z0, z1, z2, z3, z4, z5, z6⟩, ⟨zf0, zf1, zf2, zf3, zf4, zf5, zf6⟩, zl⟩ := block7 (unhide HZ)
  have uf : w.heap.size + 1 + 1 ≠ TF := by omega
  have uf2 : TF ≠ w.heap.size + 1 + 1 := by omega
  have ug : w.heap.size + 1 ≠ TF := by omega
  have ug2 : TF ≠ w.heap.size + 1 := by omega
  go_wp2_with (go_at_call 20; refine (unhide HL _).mono ?_; rintro e w3 ⟨rfl, hb3⟩; have HX' := hide (Below.next (unhide HX) hb3 (Nat.le_refl _)); have HD' := hide (keep_below (unhide HD) hb3); have HZ' := hide (keep_below (unhide HZ) hb3); have HG' := hide (keep_below (unhide HG) hb3); clear p0 p1 p2 p3 p4 p5 p6 pf0 pf1 pf2 pf3 pf4 pf5 pf6 pl; clear z0 z1 z2 z3 z4 z5 z6 zf0 zf1 zf2 zf3 zf4 zf5 zf6 zl g0 g1 gf0 gf1 gl f0 f1 ff0 ff1 fl HX HD HZ HG HF hb3; have HX := HX'; have HD := HD'; have HZ := HZ'; have HG := HG'; clear HX' HD' HZ' HG'; obtain ⟨g0, g1, gf0, gf1, gl⟩ := block2 (unhide HG); obtain ⟨⟨p0, p1, p2, p3, p4, p5, p6⟩, ⟨pf0, pf1, pf2, pf3, pf4, pf5, pf6⟩, pl⟩ := block7 (unhide HD); obtain ⟨⟨z0, z1, z2, z3, z4, z5, z6⟩, ⟨zf0, zf1, zf2, zf3, zf4, zf5, zf6⟩, zl⟩ := block7 (unhide HZ))
  exact bodyPost_ret (v := .tuple #[.agg #[.bool false, .bool r0, .bool r1, .int .i64 t0, .int .i64 t1, .int .i64 u0, .int .i64 u1], .int .i64 2, .agg #[.int .i64 0, .int .i64 0]]) (by simp [results, Try.results7, go_sem, g0, g1, z0, z1, z2, z3, z4, z5, z6]) rfl ⟨rfl, (by repeat (first | with_reducible exact unhide HX | with_reducible refine drew_below ?_ | (with_reducible refine below_set ?_ (by omega) _)))⟩

set_option maxRecDepth 100000 in
set_option maxHeartbeats 2000000 in
theorem wait0_ready (w : World) (c r0 r1 : Bool) (t0 t1 u0 u1 task now C0 C1 F1 : Int) (hC : descF c r0 r1 t0 t1 u0 u1 = (C0, C1)) (hF : waitF (onF (C0, C1) 0) t0 t1 task now = (0, F1)) (hc : c = false) (hl : late u0 now = false) (hr : r0 = true) :
    Calls Try.prog 7 #[.agg #[.bool c, .bool r0, .bool r1, .int .i64 t0, .int .i64 t1, .int .i64 u0, .int .i64 u1], .int .i64 0, .int .i64 task, .int .i64 now] w fun e w' => e = .returned (.tuple #[.agg #[.bool c, .bool false, .bool r1, .int .i64 t0, .int .i64 t1, .int .i64 u0, .int .i64 u1], .int .i64 1, .agg #[.int .i64 0, .int .i64 0]]) ∧ Below w.heap.size w w' := by
  have HC : Hid (∀ W, Calls Try.prog 19 #[.agg #[.bool c, .bool r0, .bool r1, .int .i64 t0, .int .i64 t1, .int .i64 u0, .int .i64 u1], .int .i64 0, .int .i64 task, .int .i64 now] W fun e w' => e = .returned (.agg #[.int .i64 0, .int .i64 F1]) ∧ Below W.heap.size W w') := fun W => checkWait0_any W c r0 r1 t0 t1 u0 u1 task now C0 C1 0 F1 hC hF
  have HL : Hid (∀ W, Calls Try.prog 20 #[.agg #[.bool c, .bool r0, .bool r1, .int .i64 t0, .int .i64 t1, .int .i64 u0, .int .i64 u1], .int .i64 0, .int .i64 now] W fun e w' => e = .returned (.bool (late u0 now)) ∧ Below W.heap.size W w') := fun W => lateOn0_any W c r0 r1 t0 t1 u0 u1 now
  rw [hl] at HL
  clear hl
  clear hF hC
  subst hc
  subst hr
  obtain ⟨W0, e0, hB, k0, k1, k2⟩ := three_new w (.cells #[.bool false, .bool true, .bool r1, .int .i64 t0, .int .i64 t1, .int .i64 u0, .int .i64 u1] 25) (.cells #[.bool false, .bool false, .bool false, .int .i64 0, .int .i64 0, .int .i64 0, .int .i64 0] 25) (.cells #[.int .i64 0, .int .i64 0] 27)
  have HX := hide hB; have HE := hide e0; have HD := hide k0; have HZ := hide k1; have HG := hide k2
  clear hB e0 k0 k1 k2
  go_enter Try.func7, Try.ntmps7
  go_upto_region 1 with fail
  rw [unhide HE]
  clear HE
  obtain ⟨⟨p0, p1, p2, p3, p4, p5, p6⟩, ⟨pf0, pf1, pf2, pf3, pf4, pf5, pf6⟩, pl⟩ := block7 (unhide HD)
  go_upto_region 2 with (go_at_call 19; refine (unhide HC _).mono ?_; rintro e w1 ⟨rfl, hb1⟩; have HX' := hide (Below.next (unhide HX) hb1 (Nat.le_refl _)); have HD' := hide (keep_below (unhide HD) hb1); have HZ' := hide (keep_below (unhide HZ) hb1); have HG' := hide (keep_below (unhide HG) hb1); clear p0 p1 p2 p3 p4 p5 p6 pf0 pf1 pf2 pf3 pf4 pf5 pf6 pl ; clear HX HD HZ HG hb1; have HX := HX'; have HD := HD'; have HZ := HZ'; have HG := HG'; clear HX' HD' HZ' HG')
  obtain ⟨W1, e1, hB1, k1⟩ := one_new w1 (.cells #[.int .i64 0, .int .i64 F1] 27)
  rw [e1]
  have HX' := hide (Below.next (unhide HX) hB1 (Nat.le_refl _))
  have HD' := hide (keep_below (unhide HD) hB1)
  have HZ' := hide (keep_below (unhide HZ) hB1)
  have HG' := hide (keep_below (unhide HG) hB1)
  have hlD_F := size_of (unhide HD)
  have hlZ_F := size_of (unhide HZ)
  have hlG_F := size_of (unhide HG)
  have HF := hide k1
  clear e1 hB1 k1 HX HD HZ HG
  have HX := HX'; have HD := HD'; have HZ := HZ'; have HG := HG'
  clear HX' HD' HZ' HG'
  obtain ⟨TF, eTF⟩ : ∃ X, w1.heap.size = X := ⟨_, rfl⟩
  rw [eTF] at HF hlD_F hlZ_F hlG_F ⊢
  clear eTF
  obtain ⟨f0, f1, ff0, ff1, fl⟩ := block2 (unhide HF)
  obtain ⟨g0, g1, gf0, gf1, gl⟩ := block2 (unhide HG)
  obtain ⟨⟨p0, p1, p2, p3, p4, p5, p6⟩, ⟨pf0, pf1, pf2, pf3, pf4, pf5, pf6⟩, pl⟩ := block7 (unhide HD)
  obtain ⟨⟨z0, z1, z2, z3, z4, z5, z6⟩, ⟨zf0, zf1, zf2, zf3, zf4, zf5, zf6⟩, zl⟩ := block7 (unhide HZ)
  have uf : w.heap.size + 1 + 1 ≠ TF := by omega
  have uf2 : TF ≠ w.heap.size + 1 + 1 := by omega
  have ug : w.heap.size + 1 ≠ TF := by omega
  have ug2 : TF ≠ w.heap.size + 1 := by omega
  go_wp2_with (go_at_call 20; refine (unhide HL _).mono ?_; rintro e w3 ⟨rfl, hb3⟩; have HX' := hide (Below.next (unhide HX) hb3 (Nat.le_refl _)); have HD' := hide (keep_below (unhide HD) hb3); have HZ' := hide (keep_below (unhide HZ) hb3); have HG' := hide (keep_below (unhide HG) hb3); clear p0 p1 p2 p3 p4 p5 p6 pf0 pf1 pf2 pf3 pf4 pf5 pf6 pl; clear z0 z1 z2 z3 z4 z5 z6 zf0 zf1 zf2 zf3 zf4 zf5 zf6 zl g0 g1 gf0 gf1 gl f0 f1 ff0 ff1 fl HX HD HZ HG HF hb3; have HX := HX'; have HD := HD'; have HZ := HZ'; have HG := HG'; clear HX' HD' HZ' HG'; obtain ⟨g0, g1, gf0, gf1, gl⟩ := block2 (unhide HG); obtain ⟨⟨p0, p1, p2, p3, p4, p5, p6⟩, ⟨pf0, pf1, pf2, pf3, pf4, pf5, pf6⟩, pl⟩ := block7 (unhide HD); obtain ⟨⟨z0, z1, z2, z3, z4, z5, z6⟩, ⟨zf0, zf1, zf2, zf3, zf4, zf5, zf6⟩, zl⟩ := block7 (unhide HZ))
  exact bodyPost_ret (v := .tuple #[.agg #[.bool false, .bool false, .bool r1, .int .i64 t0, .int .i64 t1, .int .i64 u0, .int .i64 u1], .int .i64 1, .agg #[.int .i64 0, .int .i64 0]]) (by simp [results, Try.results7, go_sem, g0, g1, z0, z1, z2, z3, z4, z5, z6]) rfl ⟨rfl, (by repeat (first | with_reducible exact unhide HX | with_reducible refine drew_below ?_ | (with_reducible refine below_set ?_ (by omega) _)))⟩

set_option maxRecDepth 100000 in
set_option maxHeartbeats 2000000 in
theorem wait0_waits (w : World) (c r0 r1 : Bool) (t0 t1 u0 u1 task now C0 C1 F1 : Int) (hC : descF c r0 r1 t0 t1 u0 u1 = (C0, C1)) (hF : waitF (onF (C0, C1) 0) t0 t1 task now = (0, F1)) (hc : c = false) (hl : late u0 now = false) (hr : r0 = false) :
    Calls Try.prog 7 #[.agg #[.bool c, .bool r0, .bool r1, .int .i64 t0, .int .i64 t1, .int .i64 u0, .int .i64 u1], .int .i64 0, .int .i64 task, .int .i64 now] w fun e w' => e = .returned (.tuple #[.agg #[.bool c, .bool r0, .bool r1, .int .i64 task, .int .i64 t1, .int .i64 u0, .int .i64 u1], .int .i64 0, .agg #[.int .i64 0, .int .i64 0]]) ∧ Below w.heap.size w w' := by
  have HC : Hid (∀ W, Calls Try.prog 19 #[.agg #[.bool c, .bool r0, .bool r1, .int .i64 t0, .int .i64 t1, .int .i64 u0, .int .i64 u1], .int .i64 0, .int .i64 task, .int .i64 now] W fun e w' => e = .returned (.agg #[.int .i64 0, .int .i64 F1]) ∧ Below W.heap.size W w') := fun W => checkWait0_any W c r0 r1 t0 t1 u0 u1 task now C0 C1 0 F1 hC hF
  have HL : Hid (∀ W, Calls Try.prog 20 #[.agg #[.bool c, .bool r0, .bool r1, .int .i64 t0, .int .i64 t1, .int .i64 u0, .int .i64 u1], .int .i64 0, .int .i64 now] W fun e w' => e = .returned (.bool (late u0 now)) ∧ Below W.heap.size W w') := fun W => lateOn0_any W c r0 r1 t0 t1 u0 u1 now
  rw [hl] at HL
  clear hl
  clear hF hC
  subst hc
  subst hr
  obtain ⟨W0, e0, hB, k0, k1, k2⟩ := three_new w (.cells #[.bool false, .bool false, .bool r1, .int .i64 t0, .int .i64 t1, .int .i64 u0, .int .i64 u1] 25) (.cells #[.bool false, .bool false, .bool false, .int .i64 0, .int .i64 0, .int .i64 0, .int .i64 0] 25) (.cells #[.int .i64 0, .int .i64 0] 27)
  have HX := hide hB; have HE := hide e0; have HD := hide k0; have HZ := hide k1; have HG := hide k2
  clear hB e0 k0 k1 k2
  go_enter Try.func7, Try.ntmps7
  go_upto_region 1 with fail
  rw [unhide HE]
  clear HE
  obtain ⟨⟨p0, p1, p2, p3, p4, p5, p6⟩, ⟨pf0, pf1, pf2, pf3, pf4, pf5, pf6⟩, pl⟩ := block7 (unhide HD)
  go_upto_region 2 with (go_at_call 19; refine (unhide HC _).mono ?_; rintro e w1 ⟨rfl, hb1⟩; have HX' := hide (Below.next (unhide HX) hb1 (Nat.le_refl _)); have HD' := hide (keep_below (unhide HD) hb1); have HZ' := hide (keep_below (unhide HZ) hb1); have HG' := hide (keep_below (unhide HG) hb1); clear p0 p1 p2 p3 p4 p5 p6 pf0 pf1 pf2 pf3 pf4 pf5 pf6 pl ; clear HX HD HZ HG hb1; have HX := HX'; have HD := HD'; have HZ := HZ'; have HG := HG'; clear HX' HD' HZ' HG')
  obtain ⟨W1, e1, hB1, k1⟩ := one_new w1 (.cells #[.int .i64 0, .int .i64 F1] 27)
  rw [e1]
  have HX' := hide (Below.next (unhide HX) hB1 (Nat.le_refl _))
  have HD' := hide (keep_below (unhide HD) hB1)
  have HZ' := hide (keep_below (unhide HZ) hB1)
  have HG' := hide (keep_below (unhide HG) hB1)
  have hlD_F := size_of (unhide HD)
  have hlZ_F := size_of (unhide HZ)
  have hlG_F := size_of (unhide HG)
  have HF := hide k1
  clear e1 hB1 k1 HX HD HZ HG
  have HX := HX'; have HD := HD'; have HZ := HZ'; have HG := HG'
  clear HX' HD' HZ' HG'
  obtain ⟨TF, eTF⟩ : ∃ X, w1.heap.size = X := ⟨_, rfl⟩
  rw [eTF] at HF hlD_F hlZ_F hlG_F ⊢
  clear eTF
  obtain ⟨f0, f1, ff0, ff1, fl⟩ := block2 (unhide HF)
  obtain ⟨g0, g1, gf0, gf1, gl⟩ := block2 (unhide HG)
  obtain ⟨⟨p0, p1, p2, p3, p4, p5, p6⟩, ⟨pf0, pf1, pf2, pf3, pf4, pf5, pf6⟩, pl⟩ := block7 (unhide HD)
  obtain ⟨⟨z0, z1, z2, z3, z4, z5, z6⟩, ⟨zf0, zf1, zf2, zf3, zf4, zf5, zf6⟩, zl⟩ := block7 (unhide HZ)
  have uf : w.heap.size + 1 + 1 ≠ TF := by omega
  have uf2 : TF ≠ w.heap.size + 1 + 1 := by omega
  have ug : w.heap.size + 1 ≠ TF := by omega
  have ug2 : TF ≠ w.heap.size + 1 := by omega
  go_wp2_with (go_at_call 20; refine (unhide HL _).mono ?_; rintro e w3 ⟨rfl, hb3⟩; have HX' := hide (Below.next (unhide HX) hb3 (Nat.le_refl _)); have HD' := hide (keep_below (unhide HD) hb3); have HZ' := hide (keep_below (unhide HZ) hb3); have HG' := hide (keep_below (unhide HG) hb3); clear p0 p1 p2 p3 p4 p5 p6 pf0 pf1 pf2 pf3 pf4 pf5 pf6 pl; clear z0 z1 z2 z3 z4 z5 z6 zf0 zf1 zf2 zf3 zf4 zf5 zf6 zl g0 g1 gf0 gf1 gl f0 f1 ff0 ff1 fl HX HD HZ HG HF hb3; have HX := HX'; have HD := HD'; have HZ := HZ'; have HG := HG'; clear HX' HD' HZ' HG'; obtain ⟨g0, g1, gf0, gf1, gl⟩ := block2 (unhide HG); obtain ⟨⟨p0, p1, p2, p3, p4, p5, p6⟩, ⟨pf0, pf1, pf2, pf3, pf4, pf5, pf6⟩, pl⟩ := block7 (unhide HD); obtain ⟨⟨z0, z1, z2, z3, z4, z5, z6⟩, ⟨zf0, zf1, zf2, zf3, zf4, zf5, zf6⟩, zl⟩ := block7 (unhide HZ))
  exact bodyPost_ret (v := .tuple #[.agg #[.bool false, .bool false, .bool r1, .int .i64 task, .int .i64 t1, .int .i64 u0, .int .i64 u1], .int .i64 0, .agg #[.int .i64 0, .int .i64 0]]) (by simp [results, Try.results7, go_sem, g0, g1, z0, z1, z2, z3, z4, z5, z6]) rfl ⟨rfl, (by repeat (first | with_reducible exact unhide HX | with_reducible refine drew_below ?_ | (with_reducible refine below_set ?_ (by omega) _)))⟩

set_option maxRecDepth 100000 in
set_option maxHeartbeats 2000000 in
theorem wait1_fault (w : World) (c r0 r1 : Bool) (t0 t1 u0 u1 task now C0 C1 F0 F1 : Int) (hC : descF c r0 r1 t0 t1 u0 u1 = (C0, C1)) (hF : waitF (onF (C0, C1) 1) t1 t0 task now = (F0, F1)) (hbad : F0 ≠ 0) :
    Calls Try.prog 7 #[.agg #[.bool c, .bool r0, .bool r1, .int .i64 t0, .int .i64 t1, .int .i64 u0, .int .i64 u1], .int .i64 1, .int .i64 task, .int .i64 now] w fun e w' => e = .returned (.tuple #[.agg #[.bool false, .bool false, .bool false, .int .i64 0, .int .i64 0, .int .i64 0, .int .i64 0], .int .i64 0, .agg #[.int .i64 F0, .int .i64 F1]]) ∧ Below w.heap.size w w' := by
  have HC : Hid (∀ W, Calls Try.prog 19 #[.agg #[.bool c, .bool r0, .bool r1, .int .i64 t0, .int .i64 t1, .int .i64 u0, .int .i64 u1], .int .i64 1, .int .i64 task, .int .i64 now] W fun e w' => e = .returned (.agg #[.int .i64 F0, .int .i64 F1]) ∧ Below W.heap.size W w') := fun W => checkWait1_any W c r0 r1 t0 t1 u0 u1 task now C0 C1 F0 F1 hC hF
  have xc : (F0 != 0) = true := by simpa using hbad
  clear hF hC hbad
  obtain ⟨W0, e0, hB, k0, k1, k2⟩ := three_new w (.cells #[.bool c, .bool r0, .bool r1, .int .i64 t0, .int .i64 t1, .int .i64 u0, .int .i64 u1] 25) (.cells #[.bool false, .bool false, .bool false, .int .i64 0, .int .i64 0, .int .i64 0, .int .i64 0] 25) (.cells #[.int .i64 0, .int .i64 0] 27)
  have HX := hide hB; have HE := hide e0; have HD := hide k0; have HZ := hide k1; have HG := hide k2
  clear hB e0 k0 k1 k2
  go_enter Try.func7, Try.ntmps7
  go_upto_region 1 with fail
  rw [unhide HE]
  clear HE
  obtain ⟨⟨p0, p1, p2, p3, p4, p5, p6⟩, ⟨pf0, pf1, pf2, pf3, pf4, pf5, pf6⟩, pl⟩ := block7 (unhide HD)
  go_upto_region 2 with (go_at_call 19; refine (unhide HC _).mono ?_; rintro e w1 ⟨rfl, hb1⟩; have HX' := hide (Below.next (unhide HX) hb1 (Nat.le_refl _)); have HD' := hide (keep_below (unhide HD) hb1); have HZ' := hide (keep_below (unhide HZ) hb1); have HG' := hide (keep_below (unhide HG) hb1); clear p0 p1 p2 p3 p4 p5 p6 pf0 pf1 pf2 pf3 pf4 pf5 pf6 pl ; clear HX HD HZ HG hb1; have HX := HX'; have HD := HD'; have HZ := HZ'; have HG := HG'; clear HX' HD' HZ' HG')
  obtain ⟨W1, e1, hB1, k1⟩ := one_new w1 (.cells #[.int .i64 F0, .int .i64 F1] 27)
  rw [e1]
  have HX' := hide (Below.next (unhide HX) hB1 (Nat.le_refl _))
  have HD' := hide (keep_below (unhide HD) hB1)
  have HZ' := hide (keep_below (unhide HZ) hB1)
  have HG' := hide (keep_below (unhide HG) hB1)
  have hlD_F := size_of (unhide HD)
  have hlZ_F := size_of (unhide HZ)
  have hlG_F := size_of (unhide HG)
  have HF := hide k1
  clear e1 hB1 k1 HX HD HZ HG
  have HX := HX'; have HD := HD'; have HZ := HZ'; have HG := HG'
  clear HX' HD' HZ' HG'
  obtain ⟨TF, eTF⟩ : ∃ X, w1.heap.size = X := ⟨_, rfl⟩
  rw [eTF] at HF hlD_F hlZ_F hlG_F ⊢
  clear eTF
  obtain ⟨f0, f1, ff0, ff1, fl⟩ := block2 (unhide HF)
  obtain ⟨g0, g1, gf0, gf1, gl⟩ := block2 (unhide HG)
  obtain ⟨⟨p0, p1, p2, p3, p4, p5, p6⟩, ⟨pf0, pf1, pf2, pf3, pf4, pf5, pf6⟩, pl⟩ := block7 (unhide HD)
  obtain ⟨⟨z0, z1, z2, z3, z4, z5, z6⟩, ⟨zf0, zf1, zf2, zf3, zf4, zf5, zf6⟩, zl⟩ := block7 (unhide HZ)
  have uf : w.heap.size + 1 + 1 ≠ TF := by omega
  have uf2 : TF ≠ w.heap.size + 1 + 1 := by omega
  have ug : w.heap.size + 1 ≠ TF := by omega
  have ug2 : TF ≠ w.heap.size + 1 := by omega
  go_upto_region 3 with fail
  go_wp2_with fail
  go_region
  all_goals
    go_wp2_with fail
    exact bodyPost_ret (v := .tuple #[.agg #[.bool false, .bool false, .bool false, .int .i64 0, .int .i64 0, .int .i64 0, .int .i64 0], .int .i64 0, .agg #[.int .i64 F0, .int .i64 F1]]) (by simp [results, Try.results7, go_sem, g0, g1, z0, z1, z2, z3, z4, z5, z6]) rfl ⟨rfl, (by repeat (first | with_reducible exact unhide HX | with_reducible refine drew_below ?_ | (with_reducible refine below_set ?_ (by omega) _)))⟩

set_option maxRecDepth 100000 in
set_option maxHeartbeats 2000000 in
theorem wait1_closed (w : World) (c r0 r1 : Bool) (t0 t1 u0 u1 task now C0 C1 F1 : Int) (hC : descF c r0 r1 t0 t1 u0 u1 = (C0, C1)) (hF : waitF (onF (C0, C1) 1) t1 t0 task now = (0, F1)) (hc : c = true) :
    Calls Try.prog 7 #[.agg #[.bool c, .bool r0, .bool r1, .int .i64 t0, .int .i64 t1, .int .i64 u0, .int .i64 u1], .int .i64 1, .int .i64 task, .int .i64 now] w fun e w' => e = .returned (.tuple #[.agg #[.bool c, .bool r0, .bool r1, .int .i64 t0, .int .i64 t1, .int .i64 u0, .int .i64 u1], .int .i64 3, .agg #[.int .i64 0, .int .i64 0]]) ∧ Below w.heap.size w w' := by
  have HC : Hid (∀ W, Calls Try.prog 19 #[.agg #[.bool c, .bool r0, .bool r1, .int .i64 t0, .int .i64 t1, .int .i64 u0, .int .i64 u1], .int .i64 1, .int .i64 task, .int .i64 now] W fun e w' => e = .returned (.agg #[.int .i64 0, .int .i64 F1]) ∧ Below W.heap.size W w') := fun W => checkWait1_any W c r0 r1 t0 t1 u0 u1 task now C0 C1 0 F1 hC hF
  clear hF hC
  subst hc
  obtain ⟨W0, e0, hB, k0, k1, k2⟩ := three_new w (.cells #[.bool true, .bool r0, .bool r1, .int .i64 t0, .int .i64 t1, .int .i64 u0, .int .i64 u1] 25) (.cells #[.bool false, .bool false, .bool false, .int .i64 0, .int .i64 0, .int .i64 0, .int .i64 0] 25) (.cells #[.int .i64 0, .int .i64 0] 27)
  have HX := hide hB; have HE := hide e0; have HD := hide k0; have HZ := hide k1; have HG := hide k2
  clear hB e0 k0 k1 k2
  go_enter Try.func7, Try.ntmps7
  go_upto_region 1 with fail
  rw [unhide HE]
  clear HE
  obtain ⟨⟨p0, p1, p2, p3, p4, p5, p6⟩, ⟨pf0, pf1, pf2, pf3, pf4, pf5, pf6⟩, pl⟩ := block7 (unhide HD)
  go_upto_region 2 with (go_at_call 19; refine (unhide HC _).mono ?_; rintro e w1 ⟨rfl, hb1⟩; have HX' := hide (Below.next (unhide HX) hb1 (Nat.le_refl _)); have HD' := hide (keep_below (unhide HD) hb1); have HZ' := hide (keep_below (unhide HZ) hb1); have HG' := hide (keep_below (unhide HG) hb1); clear p0 p1 p2 p3 p4 p5 p6 pf0 pf1 pf2 pf3 pf4 pf5 pf6 pl ; clear HX HD HZ HG hb1; have HX := HX'; have HD := HD'; have HZ := HZ'; have HG := HG'; clear HX' HD' HZ' HG')
  obtain ⟨W1, e1, hB1, k1⟩ := one_new w1 (.cells #[.int .i64 0, .int .i64 F1] 27)
  rw [e1]
  have HX' := hide (Below.next (unhide HX) hB1 (Nat.le_refl _))
  have HD' := hide (keep_below (unhide HD) hB1)
  have HZ' := hide (keep_below (unhide HZ) hB1)
  have HG' := hide (keep_below (unhide HG) hB1)
  have hlD_F := size_of (unhide HD)
  have hlZ_F := size_of (unhide HZ)
  have hlG_F := size_of (unhide HG)
  have HF := hide k1
  clear e1 hB1 k1 HX HD HZ HG
  have HX := HX'; have HD := HD'; have HZ := HZ'; have HG := HG'
  clear HX' HD' HZ' HG'
  obtain ⟨TF, eTF⟩ : ∃ X, w1.heap.size = X := ⟨_, rfl⟩
  rw [eTF] at HF hlD_F hlZ_F hlG_F ⊢
  clear eTF
  obtain ⟨f0, f1, ff0, ff1, fl⟩ := block2 (unhide HF)
  obtain ⟨g0, g1, gf0, gf1, gl⟩ := block2 (unhide HG)
  obtain ⟨⟨p0, p1, p2, p3, p4, p5, p6⟩, ⟨pf0, pf1, pf2, pf3, pf4, pf5, pf6⟩, pl⟩ := block7 (unhide HD)
  obtain ⟨⟨z0, z1, z2, z3, z4, z5, z6⟩, ⟨zf0, zf1, zf2, zf3, zf4, zf5, zf6⟩, zl⟩ := block7 (unhide HZ)
  have uf : w.heap.size + 1 + 1 ≠ TF := by omega
  have uf2 : TF ≠ w.heap.size + 1 + 1 := by omega
  have ug : w.heap.size + 1 ≠ TF := by omega
  have ug2 : TF ≠ w.heap.size + 1 := by omega
  go_wp2_with fail
  exact bodyPost_ret (v := .tuple #[.agg #[.bool true, .bool r0, .bool r1, .int .i64 t0, .int .i64 t1, .int .i64 u0, .int .i64 u1], .int .i64 3, .agg #[.int .i64 0, .int .i64 0]]) (by simp [results, Try.results7, go_sem, g0, g1, z0, z1, z2, z3, z4, z5, z6]) rfl ⟨rfl, (by repeat (first | with_reducible exact unhide HX | with_reducible refine drew_below ?_ | (with_reducible refine below_set ?_ (by omega) _)))⟩

set_option maxRecDepth 100000 in
set_option maxHeartbeats 2000000 in
theorem wait1_late (w : World) (c r0 r1 : Bool) (t0 t1 u0 u1 task now C0 C1 F1 : Int) (hC : descF c r0 r1 t0 t1 u0 u1 = (C0, C1)) (hF : waitF (onF (C0, C1) 1) t1 t0 task now = (0, F1)) (hc : c = false) (hl : late u1 now = true) :
    Calls Try.prog 7 #[.agg #[.bool c, .bool r0, .bool r1, .int .i64 t0, .int .i64 t1, .int .i64 u0, .int .i64 u1], .int .i64 1, .int .i64 task, .int .i64 now] w fun e w' => e = .returned (.tuple #[.agg #[.bool c, .bool r0, .bool r1, .int .i64 t0, .int .i64 t1, .int .i64 u0, .int .i64 u1], .int .i64 2, .agg #[.int .i64 0, .int .i64 0]]) ∧ Below w.heap.size w w' := by
  have HC : Hid (∀ W, Calls Try.prog 19 #[.agg #[.bool c, .bool r0, .bool r1, .int .i64 t0, .int .i64 t1, .int .i64 u0, .int .i64 u1], .int .i64 1, .int .i64 task, .int .i64 now] W fun e w' => e = .returned (.agg #[.int .i64 0, .int .i64 F1]) ∧ Below W.heap.size W w') := fun W => checkWait1_any W c r0 r1 t0 t1 u0 u1 task now C0 C1 0 F1 hC hF
  have HL : Hid (∀ W, Calls Try.prog 20 #[.agg #[.bool c, .bool r0, .bool r1, .int .i64 t0, .int .i64 t1, .int .i64 u0, .int .i64 u1], .int .i64 1, .int .i64 now] W fun e w' => e = .returned (.bool (late u1 now)) ∧ Below W.heap.size W w') := fun W => lateOn1_any W c r0 r1 t0 t1 u0 u1 now
  rw [hl] at HL
  clear hl
  clear hF hC
  subst hc
  obtain ⟨W0, e0, hB, k0, k1, k2⟩ := three_new w (.cells #[.bool false, .bool r0, .bool r1, .int .i64 t0, .int .i64 t1, .int .i64 u0, .int .i64 u1] 25) (.cells #[.bool false, .bool false, .bool false, .int .i64 0, .int .i64 0, .int .i64 0, .int .i64 0] 25) (.cells #[.int .i64 0, .int .i64 0] 27)
  have HX := hide hB; have HE := hide e0; have HD := hide k0; have HZ := hide k1; have HG := hide k2
  clear hB e0 k0 k1 k2
  go_enter Try.func7, Try.ntmps7
  go_upto_region 1 with fail
  rw [unhide HE]
  clear HE
  obtain ⟨⟨p0, p1, p2, p3, p4, p5, p6⟩, ⟨pf0, pf1, pf2, pf3, pf4, pf5, pf6⟩, pl⟩ := block7 (unhide HD)
  go_upto_region 2 with (go_at_call 19; refine (unhide HC _).mono ?_; rintro e w1 ⟨rfl, hb1⟩; have HX' := hide (Below.next (unhide HX) hb1 (Nat.le_refl _)); have HD' := hide (keep_below (unhide HD) hb1); have HZ' := hide (keep_below (unhide HZ) hb1); have HG' := hide (keep_below (unhide HG) hb1); clear p0 p1 p2 p3 p4 p5 p6 pf0 pf1 pf2 pf3 pf4 pf5 pf6 pl ; clear HX HD HZ HG hb1; have HX := HX'; have HD := HD'; have HZ := HZ'; have HG := HG'; clear HX' HD' HZ' HG')
  obtain ⟨W1, e1, hB1, k1⟩ := one_new w1 (.cells #[.int .i64 0, .int .i64 F1] 27)
  rw [e1]
  have HX' := hide (Below.next (unhide HX) hB1 (Nat.le_refl _))
  have HD' := hide (keep_below (unhide HD) hB1)
  have HZ' := hide (keep_below (unhide HZ) hB1)
  have HG' := hide (keep_below (unhide HG) hB1)
  have hlD_F := size_of (unhide HD)
  have hlZ_F := size_of (unhide HZ)
  have hlG_F := size_of (unhide HG)
  have HF := hide k1
  clear e1 hB1 k1 HX HD HZ HG
  have HX := HX'; have HD := HD'; have HZ := HZ'; have HG := HG'
  clear HX' HD' HZ' HG'
  obtain ⟨TF, eTF⟩ : ∃ X, w1.heap.size = X := ⟨_, rfl⟩
  rw [eTF] at HF hlD_F hlZ_F hlG_F ⊢
  clear eTF
  obtain ⟨f0, f1, ff0, ff1, fl⟩ := block2 (unhide HF)
  obtain ⟨g0, g1, gf0, gf1, gl⟩ := block2 (unhide HG)
  obtain ⟨⟨p0, p1, p2, p3, p4, p5, p6⟩, ⟨pf0, pf1, pf2, pf3, pf4, pf5, pf6⟩, pl⟩ := block7 (unhide HD)
  obtain ⟨⟨z0, z1, z2, z3, z4, z5, z6⟩, ⟨zf0, zf1, zf2, zf3, zf4, zf5, zf6⟩, zl⟩ := block7 (unhide HZ)
  have uf : w.heap.size + 1 + 1 ≠ TF := by omega
  have uf2 : TF ≠ w.heap.size + 1 + 1 := by omega
  have ug : w.heap.size + 1 ≠ TF := by omega
  have ug2 : TF ≠ w.heap.size + 1 := by omega
  go_wp2_with (go_at_call 20; refine (unhide HL _).mono ?_; rintro e w3 ⟨rfl, hb3⟩; have HX' := hide (Below.next (unhide HX) hb3 (Nat.le_refl _)); have HD' := hide (keep_below (unhide HD) hb3); have HZ' := hide (keep_below (unhide HZ) hb3); have HG' := hide (keep_below (unhide HG) hb3); clear p0 p1 p2 p3 p4 p5 p6 pf0 pf1 pf2 pf3 pf4 pf5 pf6 pl; clear z0 z1 z2 z3 z4 z5 z6 zf0 zf1 zf2 zf3 zf4 zf5 zf6 zl g0 g1 gf0 gf1 gl f0 f1 ff0 ff1 fl HX HD HZ HG HF hb3; have HX := HX'; have HD := HD'; have HZ := HZ'; have HG := HG'; clear HX' HD' HZ' HG'; obtain ⟨g0, g1, gf0, gf1, gl⟩ := block2 (unhide HG); obtain ⟨⟨p0, p1, p2, p3, p4, p5, p6⟩, ⟨pf0, pf1, pf2, pf3, pf4, pf5, pf6⟩, pl⟩ := block7 (unhide HD); obtain ⟨⟨z0, z1, z2, z3, z4, z5, z6⟩, ⟨zf0, zf1, zf2, zf3, zf4, zf5, zf6⟩, zl⟩ := block7 (unhide HZ))
  exact bodyPost_ret (v := .tuple #[.agg #[.bool false, .bool r0, .bool r1, .int .i64 t0, .int .i64 t1, .int .i64 u0, .int .i64 u1], .int .i64 2, .agg #[.int .i64 0, .int .i64 0]]) (by simp [results, Try.results7, go_sem, g0, g1, z0, z1, z2, z3, z4, z5, z6]) rfl ⟨rfl, (by repeat (first | with_reducible exact unhide HX | with_reducible refine drew_below ?_ | (with_reducible refine below_set ?_ (by omega) _)))⟩

set_option maxRecDepth 100000 in
set_option maxHeartbeats 2000000 in
theorem wait1_ready (w : World) (c r0 r1 : Bool) (t0 t1 u0 u1 task now C0 C1 F1 : Int) (hC : descF c r0 r1 t0 t1 u0 u1 = (C0, C1)) (hF : waitF (onF (C0, C1) 1) t1 t0 task now = (0, F1)) (hc : c = false) (hl : late u1 now = false) (hr : r1 = true) :
    Calls Try.prog 7 #[.agg #[.bool c, .bool r0, .bool r1, .int .i64 t0, .int .i64 t1, .int .i64 u0, .int .i64 u1], .int .i64 1, .int .i64 task, .int .i64 now] w fun e w' => e = .returned (.tuple #[.agg #[.bool c, .bool r0, .bool false, .int .i64 t0, .int .i64 t1, .int .i64 u0, .int .i64 u1], .int .i64 1, .agg #[.int .i64 0, .int .i64 0]]) ∧ Below w.heap.size w w' := by
  have HC : Hid (∀ W, Calls Try.prog 19 #[.agg #[.bool c, .bool r0, .bool r1, .int .i64 t0, .int .i64 t1, .int .i64 u0, .int .i64 u1], .int .i64 1, .int .i64 task, .int .i64 now] W fun e w' => e = .returned (.agg #[.int .i64 0, .int .i64 F1]) ∧ Below W.heap.size W w') := fun W => checkWait1_any W c r0 r1 t0 t1 u0 u1 task now C0 C1 0 F1 hC hF
  have HL : Hid (∀ W, Calls Try.prog 20 #[.agg #[.bool c, .bool r0, .bool r1, .int .i64 t0, .int .i64 t1, .int .i64 u0, .int .i64 u1], .int .i64 1, .int .i64 now] W fun e w' => e = .returned (.bool (late u1 now)) ∧ Below W.heap.size W w') := fun W => lateOn1_any W c r0 r1 t0 t1 u0 u1 now
  rw [hl] at HL
  clear hl
  clear hF hC
  subst hc
  subst hr
  obtain ⟨W0, e0, hB, k0, k1, k2⟩ := three_new w (.cells #[.bool false, .bool r0, .bool true, .int .i64 t0, .int .i64 t1, .int .i64 u0, .int .i64 u1] 25) (.cells #[.bool false, .bool false, .bool false, .int .i64 0, .int .i64 0, .int .i64 0, .int .i64 0] 25) (.cells #[.int .i64 0, .int .i64 0] 27)
  have HX := hide hB; have HE := hide e0; have HD := hide k0; have HZ := hide k1; have HG := hide k2
  clear hB e0 k0 k1 k2
  go_enter Try.func7, Try.ntmps7
  go_upto_region 1 with fail
  rw [unhide HE]
  clear HE
  obtain ⟨⟨p0, p1, p2, p3, p4, p5, p6⟩, ⟨pf0, pf1, pf2, pf3, pf4, pf5, pf6⟩, pl⟩ := block7 (unhide HD)
  go_upto_region 2 with (go_at_call 19; refine (unhide HC _).mono ?_; rintro e w1 ⟨rfl, hb1⟩; have HX' := hide (Below.next (unhide HX) hb1 (Nat.le_refl _)); have HD' := hide (keep_below (unhide HD) hb1); have HZ' := hide (keep_below (unhide HZ) hb1); have HG' := hide (keep_below (unhide HG) hb1); clear p0 p1 p2 p3 p4 p5 p6 pf0 pf1 pf2 pf3 pf4 pf5 pf6 pl ; clear HX HD HZ HG hb1; have HX := HX'; have HD := HD'; have HZ := HZ'; have HG := HG'; clear HX' HD' HZ' HG')
  obtain ⟨W1, e1, hB1, k1⟩ := one_new w1 (.cells #[.int .i64 0, .int .i64 F1] 27)
  rw [e1]
  have HX' := hide (Below.next (unhide HX) hB1 (Nat.le_refl _))
  have HD' := hide (keep_below (unhide HD) hB1)
  have HZ' := hide (keep_below (unhide HZ) hB1)
  have HG' := hide (keep_below (unhide HG) hB1)
  have hlD_F := size_of (unhide HD)
  have hlZ_F := size_of (unhide HZ)
  have hlG_F := size_of (unhide HG)
  have HF := hide k1
  clear e1 hB1 k1 HX HD HZ HG
  have HX := HX'; have HD := HD'; have HZ := HZ'; have HG := HG'
  clear HX' HD' HZ' HG'
  obtain ⟨TF, eTF⟩ : ∃ X, w1.heap.size = X := ⟨_, rfl⟩
  rw [eTF] at HF hlD_F hlZ_F hlG_F ⊢
  clear eTF
  obtain ⟨f0, f1, ff0, ff1, fl⟩ := block2 (unhide HF)
  obtain ⟨g0, g1, gf0, gf1, gl⟩ := block2 (unhide HG)
  obtain ⟨⟨p0, p1, p2, p3, p4, p5, p6⟩, ⟨pf0, pf1, pf2, pf3, pf4, pf5, pf6⟩, pl⟩ := block7 (unhide HD)
  obtain ⟨⟨z0, z1, z2, z3, z4, z5, z6⟩, ⟨zf0, zf1, zf2, zf3, zf4, zf5, zf6⟩, zl⟩ := block7 (unhide HZ)
  have uf : w.heap.size + 1 + 1 ≠ TF := by omega
  have uf2 : TF ≠ w.heap.size + 1 + 1 := by omega
  have ug : w.heap.size + 1 ≠ TF := by omega
  have ug2 : TF ≠ w.heap.size + 1 := by omega
  go_wp2_with (go_at_call 20; refine (unhide HL _).mono ?_; rintro e w3 ⟨rfl, hb3⟩; have HX' := hide (Below.next (unhide HX) hb3 (Nat.le_refl _)); have HD' := hide (keep_below (unhide HD) hb3); have HZ' := hide (keep_below (unhide HZ) hb3); have HG' := hide (keep_below (unhide HG) hb3); clear p0 p1 p2 p3 p4 p5 p6 pf0 pf1 pf2 pf3 pf4 pf5 pf6 pl; clear z0 z1 z2 z3 z4 z5 z6 zf0 zf1 zf2 zf3 zf4 zf5 zf6 zl g0 g1 gf0 gf1 gl f0 f1 ff0 ff1 fl HX HD HZ HG HF hb3; have HX := HX'; have HD := HD'; have HZ := HZ'; have HG := HG'; clear HX' HD' HZ' HG'; obtain ⟨g0, g1, gf0, gf1, gl⟩ := block2 (unhide HG); obtain ⟨⟨p0, p1, p2, p3, p4, p5, p6⟩, ⟨pf0, pf1, pf2, pf3, pf4, pf5, pf6⟩, pl⟩ := block7 (unhide HD); obtain ⟨⟨z0, z1, z2, z3, z4, z5, z6⟩, ⟨zf0, zf1, zf2, zf3, zf4, zf5, zf6⟩, zl⟩ := block7 (unhide HZ))
  exact bodyPost_ret (v := .tuple #[.agg #[.bool false, .bool r0, .bool false, .int .i64 t0, .int .i64 t1, .int .i64 u0, .int .i64 u1], .int .i64 1, .agg #[.int .i64 0, .int .i64 0]]) (by simp [results, Try.results7, go_sem, g0, g1, z0, z1, z2, z3, z4, z5, z6]) rfl ⟨rfl, (by repeat (first | with_reducible exact unhide HX | with_reducible refine drew_below ?_ | (with_reducible refine below_set ?_ (by omega) _)))⟩

set_option maxRecDepth 100000 in
set_option maxHeartbeats 2000000 in
theorem wait1_waits (w : World) (c r0 r1 : Bool) (t0 t1 u0 u1 task now C0 C1 F1 : Int) (hC : descF c r0 r1 t0 t1 u0 u1 = (C0, C1)) (hF : waitF (onF (C0, C1) 1) t1 t0 task now = (0, F1)) (hc : c = false) (hl : late u1 now = false) (hr : r1 = false) :
    Calls Try.prog 7 #[.agg #[.bool c, .bool r0, .bool r1, .int .i64 t0, .int .i64 t1, .int .i64 u0, .int .i64 u1], .int .i64 1, .int .i64 task, .int .i64 now] w fun e w' => e = .returned (.tuple #[.agg #[.bool c, .bool r0, .bool r1, .int .i64 t0, .int .i64 task, .int .i64 u0, .int .i64 u1], .int .i64 0, .agg #[.int .i64 0, .int .i64 0]]) ∧ Below w.heap.size w w' := by
  have HC : Hid (∀ W, Calls Try.prog 19 #[.agg #[.bool c, .bool r0, .bool r1, .int .i64 t0, .int .i64 t1, .int .i64 u0, .int .i64 u1], .int .i64 1, .int .i64 task, .int .i64 now] W fun e w' => e = .returned (.agg #[.int .i64 0, .int .i64 F1]) ∧ Below W.heap.size W w') := fun W => checkWait1_any W c r0 r1 t0 t1 u0 u1 task now C0 C1 0 F1 hC hF
  have HL : Hid (∀ W, Calls Try.prog 20 #[.agg #[.bool c, .bool r0, .bool r1, .int .i64 t0, .int .i64 t1, .int .i64 u0, .int .i64 u1], .int .i64 1, .int .i64 now] W fun e w' => e = .returned (.bool (late u1 now)) ∧ Below W.heap.size W w') := fun W => lateOn1_any W c r0 r1 t0 t1 u0 u1 now
  rw [hl] at HL
  clear hl
  clear hF hC
  subst hc
  subst hr
  obtain ⟨W0, e0, hB, k0, k1, k2⟩ := three_new w (.cells #[.bool false, .bool r0, .bool false, .int .i64 t0, .int .i64 t1, .int .i64 u0, .int .i64 u1] 25) (.cells #[.bool false, .bool false, .bool false, .int .i64 0, .int .i64 0, .int .i64 0, .int .i64 0] 25) (.cells #[.int .i64 0, .int .i64 0] 27)
  have HX := hide hB; have HE := hide e0; have HD := hide k0; have HZ := hide k1; have HG := hide k2
  clear hB e0 k0 k1 k2
  go_enter Try.func7, Try.ntmps7
  go_upto_region 1 with fail
  rw [unhide HE]
  clear HE
  obtain ⟨⟨p0, p1, p2, p3, p4, p5, p6⟩, ⟨pf0, pf1, pf2, pf3, pf4, pf5, pf6⟩, pl⟩ := block7 (unhide HD)
  go_upto_region 2 with (go_at_call 19; refine (unhide HC _).mono ?_; rintro e w1 ⟨rfl, hb1⟩; have HX' := hide (Below.next (unhide HX) hb1 (Nat.le_refl _)); have HD' := hide (keep_below (unhide HD) hb1); have HZ' := hide (keep_below (unhide HZ) hb1); have HG' := hide (keep_below (unhide HG) hb1); clear p0 p1 p2 p3 p4 p5 p6 pf0 pf1 pf2 pf3 pf4 pf5 pf6 pl ; clear HX HD HZ HG hb1; have HX := HX'; have HD := HD'; have HZ := HZ'; have HG := HG'; clear HX' HD' HZ' HG')
  obtain ⟨W1, e1, hB1, k1⟩ := one_new w1 (.cells #[.int .i64 0, .int .i64 F1] 27)
  rw [e1]
  have HX' := hide (Below.next (unhide HX) hB1 (Nat.le_refl _))
  have HD' := hide (keep_below (unhide HD) hB1)
  have HZ' := hide (keep_below (unhide HZ) hB1)
  have HG' := hide (keep_below (unhide HG) hB1)
  have hlD_F := size_of (unhide HD)
  have hlZ_F := size_of (unhide HZ)
  have hlG_F := size_of (unhide HG)
  have HF := hide k1
  clear e1 hB1 k1 HX HD HZ HG
  have HX := HX'; have HD := HD'; have HZ := HZ'; have HG := HG'
  clear HX' HD' HZ' HG'
  obtain ⟨TF, eTF⟩ : ∃ X, w1.heap.size = X := ⟨_, rfl⟩
  rw [eTF] at HF hlD_F hlZ_F hlG_F ⊢
  clear eTF
  obtain ⟨f0, f1, ff0, ff1, fl⟩ := block2 (unhide HF)
  obtain ⟨g0, g1, gf0, gf1, gl⟩ := block2 (unhide HG)
  obtain ⟨⟨p0, p1, p2, p3, p4, p5, p6⟩, ⟨pf0, pf1, pf2, pf3, pf4, pf5, pf6⟩, pl⟩ := block7 (unhide HD)
  obtain ⟨⟨z0, z1, z2, z3, z4, z5, z6⟩, ⟨zf0, zf1, zf2, zf3, zf4, zf5, zf6⟩, zl⟩ := block7 (unhide HZ)
  have uf : w.heap.size + 1 + 1 ≠ TF := by omega
  have uf2 : TF ≠ w.heap.size + 1 + 1 := by omega
  have ug : w.heap.size + 1 ≠ TF := by omega
  have ug2 : TF ≠ w.heap.size + 1 := by omega
  go_wp2_with (go_at_call 20; refine (unhide HL _).mono ?_; rintro e w3 ⟨rfl, hb3⟩; have HX' := hide (Below.next (unhide HX) hb3 (Nat.le_refl _)); have HD' := hide (keep_below (unhide HD) hb3); have HZ' := hide (keep_below (unhide HZ) hb3); have HG' := hide (keep_below (unhide HG) hb3); clear p0 p1 p2 p3 p4 p5 p6 pf0 pf1 pf2 pf3 pf4 pf5 pf6 pl; clear z0 z1 z2 z3 z4 z5 z6 zf0 zf1 zf2 zf3 zf4 zf5 zf6 zl g0 g1 gf0 gf1 gl f0 f1 ff0 ff1 fl HX HD HZ HG HF hb3; have HX := HX'; have HD := HD'; have HZ := HZ'; have HG := HG'; clear HX' HD' HZ' HG'; obtain ⟨g0, g1, gf0, gf1, gl⟩ := block2 (unhide HG); obtain ⟨⟨p0, p1, p2, p3, p4, p5, p6⟩, ⟨pf0, pf1, pf2, pf3, pf4, pf5, pf6⟩, pl⟩ := block7 (unhide HD); obtain ⟨⟨z0, z1, z2, z3, z4, z5, z6⟩, ⟨zf0, zf1, zf2, zf3, zf4, zf5, zf6⟩, zl⟩ := block7 (unhide HZ))
  exact bodyPost_ret (v := .tuple #[.agg #[.bool false, .bool r0, .bool false, .int .i64 t0, .int .i64 task, .int .i64 u0, .int .i64 u1], .int .i64 0, .agg #[.int .i64 0, .int .i64 0]]) (by simp [results, Try.results7, go_sem, g0, g1, z0, z1, z2, z3, z4, z5, z6]) rfl ⟨rfl, (by repeat (first | with_reducible exact unhide HX | with_reducible refine drew_below ?_ | (with_reducible refine below_set ?_ (by omega) _)))⟩

set_option maxRecDepth 100000 in
set_option maxHeartbeats 2000000 in
theorem wait2_fault (w : World) (c r0 r1 : Bool) (t0 t1 u0 u1 way task now C0 C1 F0 F1 : Int) (hC : descF c r0 r1 t0 t1 u0 u1 = (C0, C1)) (hF : onF (C0, C1) way = (F0, F1)) (hbad : F0 ≠ 0) :
    Calls Try.prog 7 #[.agg #[.bool c, .bool r0, .bool r1, .int .i64 t0, .int .i64 t1, .int .i64 u0, .int .i64 u1], .int .i64 way, .int .i64 task, .int .i64 now] w fun e w' => e = .returned (.tuple #[.agg #[.bool false, .bool false, .bool false, .int .i64 0, .int .i64 0, .int .i64 0, .int .i64 0], .int .i64 0, .agg #[.int .i64 F0, .int .i64 F1]]) ∧ Below w.heap.size w w' := by
  have HC : Hid (∀ W, Calls Try.prog 19 #[.agg #[.bool c, .bool r0, .bool r1, .int .i64 t0, .int .i64 t1, .int .i64 u0, .int .i64 u1], .int .i64 way, .int .i64 task, .int .i64 now] W fun e w' => e = .returned (.agg #[.int .i64 F0, .int .i64 F1]) ∧ Below W.heap.size W w') := fun W => checkWait2_any W c r0 r1 t0 t1 u0 u1 way task now C0 C1 F0 F1 hC hF hbad
  have xc : (F0 != 0) = true := by simpa using hbad
  clear hF hC hbad
  obtain ⟨W0, e0, hB, k0, k1, k2⟩ := three_new w (.cells #[.bool c, .bool r0, .bool r1, .int .i64 t0, .int .i64 t1, .int .i64 u0, .int .i64 u1] 25) (.cells #[.bool false, .bool false, .bool false, .int .i64 0, .int .i64 0, .int .i64 0, .int .i64 0] 25) (.cells #[.int .i64 0, .int .i64 0] 27)
  have HX := hide hB; have HE := hide e0; have HD := hide k0; have HZ := hide k1; have HG := hide k2
  clear hB e0 k0 k1 k2
  go_enter Try.func7, Try.ntmps7
  go_upto_region 1 with fail
  rw [unhide HE]
  clear HE
  obtain ⟨⟨p0, p1, p2, p3, p4, p5, p6⟩, ⟨pf0, pf1, pf2, pf3, pf4, pf5, pf6⟩, pl⟩ := block7 (unhide HD)
  go_upto_region 2 with (go_at_call 19; refine (unhide HC _).mono ?_; rintro e w1 ⟨rfl, hb1⟩; have HX' := hide (Below.next (unhide HX) hb1 (Nat.le_refl _)); have HD' := hide (keep_below (unhide HD) hb1); have HZ' := hide (keep_below (unhide HZ) hb1); have HG' := hide (keep_below (unhide HG) hb1); clear p0 p1 p2 p3 p4 p5 p6 pf0 pf1 pf2 pf3 pf4 pf5 pf6 pl ; clear HX HD HZ HG hb1; have HX := HX'; have HD := HD'; have HZ := HZ'; have HG := HG'; clear HX' HD' HZ' HG')
  obtain ⟨W1, e1, hB1, k1⟩ := one_new w1 (.cells #[.int .i64 F0, .int .i64 F1] 27)
  rw [e1]
  have HX' := hide (Below.next (unhide HX) hB1 (Nat.le_refl _))
  have HD' := hide (keep_below (unhide HD) hB1)
  have HZ' := hide (keep_below (unhide HZ) hB1)
  have HG' := hide (keep_below (unhide HG) hB1)
  have hlD_F := size_of (unhide HD)
  have hlZ_F := size_of (unhide HZ)
  have hlG_F := size_of (unhide HG)
  have HF := hide k1
  clear e1 hB1 k1 HX HD HZ HG
  have HX := HX'; have HD := HD'; have HZ := HZ'; have HG := HG'
  clear HX' HD' HZ' HG'
  obtain ⟨TF, eTF⟩ : ∃ X, w1.heap.size = X := ⟨_, rfl⟩
  rw [eTF] at HF hlD_F hlZ_F hlG_F ⊢
  clear eTF
  obtain ⟨f0, f1, ff0, ff1, fl⟩ := block2 (unhide HF)
  obtain ⟨g0, g1, gf0, gf1, gl⟩ := block2 (unhide HG)
  obtain ⟨⟨p0, p1, p2, p3, p4, p5, p6⟩, ⟨pf0, pf1, pf2, pf3, pf4, pf5, pf6⟩, pl⟩ := block7 (unhide HD)
  obtain ⟨⟨z0, z1, z2, z3, z4, z5, z6⟩, ⟨zf0, zf1, zf2, zf3, zf4, zf5, zf6⟩, zl⟩ := block7 (unhide HZ)
  have uf : w.heap.size + 1 + 1 ≠ TF := by omega
  have uf2 : TF ≠ w.heap.size + 1 + 1 := by omega
  have ug : w.heap.size + 1 ≠ TF := by omega
  have ug2 : TF ≠ w.heap.size + 1 := by omega
  go_upto_region 3 with fail
  go_wp2_with fail
  go_region
  all_goals
    go_wp2_with fail
    exact bodyPost_ret (v := .tuple #[.agg #[.bool false, .bool false, .bool false, .int .i64 0, .int .i64 0, .int .i64 0, .int .i64 0], .int .i64 0, .agg #[.int .i64 F0, .int .i64 F1]]) (by simp [results, Try.results7, go_sem, g0, g1, z0, z1, z2, z3, z4, z5, z6]) rfl ⟨rfl, (by repeat (first | with_reducible exact unhide HX | with_reducible refine drew_below ?_ | (with_reducible refine below_set ?_ (by omega) _)))⟩

end Go.Proofs.Ytmghfedlpndpiaa
