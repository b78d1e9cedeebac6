/-
  poll.Fire, poll.Until.
-/
import Derived.Test.YtmghfedlpndpiaaJ
namespace Go.Proofs.Ytmghfedlpndpiaa
open Go.RowKit

set_option maxRecDepth 100000 in
set_option maxHeartbeats 2000000 in
theorem fire_fault (w : World) (c r0 r1 : Bool) (t0 t1 u0 u1 way C0 C1 F0 F1 : Int) (hC : descF c r0 r1 t0 t1 u0 u1 = (C0, C1)) (hF : onF (C0, C1) way = (F0, F1)) (hbad : F0 ≠ 0) :
    Calls Try.prog 8 #[.agg #[.bool c, .bool r0, .bool r1, .int .i64 t0, .int .i64 t1, .int .i64 u0, .int .i64 u1], .int .i64 way] w fun e w' => e = .returned (.tuple #[.agg #[.bool false, .bool false, .bool false, .int .i64 0, .int .i64 0, .int .i64 0, .int .i64 0], .int .i64 0, .agg #[.int .i64 F0, .int .i64 F1]]) ∧ Below w.heap.size w w' := by
  have HC : Hid (∀ W, Calls Try.prog 21 #[.agg #[.bool c, .bool r0, .bool r1, .int .i64 t0, .int .i64 t1, .int .i64 u0, .int .i64 u1], .int .i64 way] W fun e w' => e = .returned (.agg #[.int .i64 F0, .int .i64 F1]) ∧ Below W.heap.size W w') := fun W => checkOn_any W c r0 r1 t0 t1 u0 u1 way C0 C1 F0 F1 hC hF
  have xc : (F0 != 0) = true := by simpa using hbad
  clear hF hC hbad
  obtain ⟨W0, e0, hB, k0, k1, k2⟩ := three_new w (.cells #[.bool c, .bool r0, .bool r1, .int .i64 t0, .int .i64 t1, .int .i64 u0, .int .i64 u1] 25) (.cells #[.bool false, .bool false, .bool false, .int .i64 0, .int .i64 0, .int .i64 0, .int .i64 0] 25) (.cells #[.int .i64 0, .int .i64 0] 27)
  have HX := hide hB; have HE := hide e0; have HD := hide k0; have HZ := hide k1; have HG := hide k2
  clear hB e0 k0 k1 k2
  go_enter Try.func8, Try.ntmps8
  go_upto_region 1 with fail
  rw [unhide HE]
  clear HE
  obtain ⟨⟨p0, p1, p2, p3, p4, p5, p6⟩, ⟨pf0, pf1, pf2, pf3, pf4, pf5, pf6⟩, pl⟩ := block7 (unhide HD)
  go_upto_region 2 with (go_at_call 21; refine (unhide HC _).mono ?_; rintro e w1 ⟨rfl, hb1⟩; have HX' := hide (Below.next (unhide HX) hb1 (Nat.le_refl _)); have HD' := hide (keep_below (unhide HD) hb1); have HZ' := hide (keep_below (unhide HZ) hb1); have HG' := hide (keep_below (unhide HG) hb1); clear p0 p1 p2 p3 p4 p5 p6 pf0 pf1 pf2 pf3 pf4 pf5 pf6 pl ; clear HX HD HZ HG hb1; have HX := HX'; have HD := HD'; have HZ := HZ'; have HG := HG'; clear HX' HD' HZ' HG')
  obtain ⟨W1, e1, hB1, k1⟩ := one_new w1 (.cells #[.int .i64 F0, .int .i64 F1] 27)
  rw [e1]
  have HX' := hide (Below.next (unhide HX) hB1 (Nat.le_refl _))
  have HD' := hide (keep_below (unhide HD) hB1)
  have HZ' := hide (keep_below (unhide HZ) hB1)
  have HG' := hide (keep_below (unhide HG) hB1)
  have hlD_F := size_of (unhide HD)
  have hlZ_F := size_of (unhide HZ)
  have hlG_F := size_of (unhide HG)
  have HF := hide k1
  clear e1 hB1 k1 HX HD HZ HG
  have HX := HX'; have HD := HD'; have HZ := HZ'; have HG := HG'
  clear HX' HD' HZ' HG'
  obtain ⟨TF, eTF⟩ : ∃ X, w1.heap.size = X := ⟨_, rfl⟩
  rw [eTF] at HF hlD_F hlZ_F hlG_F ⊢
  clear eTF
  obtain ⟨f0, f1, ff0, ff1, fl⟩ := block2 (unhide HF)
  obtain ⟨g0, g1, gf0, gf1, gl⟩ := block2 (unhide HG)
  obtain ⟨⟨p0, p1, p2, p3, p4, p5, p6⟩, ⟨pf0, pf1, pf2, pf3, pf4, pf5, pf6⟩, pl⟩ := block7 (unhide HD)
  obtain ⟨⟨z0, z1, z2, z3, z4, z5, z6⟩, ⟨zf0, zf1, zf2, zf3, zf4, zf5, zf6⟩, zl⟩ := block7 (unhide HZ)
  have uf : w.heap.size + 1 + 1 ≠ TF := by omega
  have uf2 : TF ≠ w.heap.size + 1 + 1 := by omega
  have ug : w.heap.size + 1 ≠ TF := by omega
  have ug2 : TF ≠ w.heap.size + 1 := by omega
  go_upto_region 3 with fail
  go_wp2_with fail
  go_region
  all_goals
    go_wp2_with fail
    exact bodyPost_ret (v := .tuple #[.agg #[.bool false, .bool false, .bool false, .int .i64 0, .int .i64 0, .int .i64 0, .int .i64 0], .int .i64 0, .agg #[.int .i64 F0, .int .i64 F1]]) (by simp [results, Try.results8, go_sem, g0, g1, z0, z1, z2, z3, z4, z5, z6]) rfl ⟨rfl, (by repeat (first | with_reducible exact unhide HX | with_reducible refine drew_below ?_ | (with_reducible refine below_set ?_ (by omega) _)))⟩

set_option maxRecDepth 100000 in
set_option maxHeartbeats 2000000 in
theorem fire0_closed (w : World) (c r0 r1 : Bool) (t0 t1 u0 u1 C0 C1 F1 : Int) (hC : descF c r0 r1 t0 t1 u0 u1 = (C0, C1)) (hF : onF (C0, C1) 0 = (0, F1)) (hc : c = true) :
    Calls Try.prog 8 #[.agg #[.bool c, .bool r0, .bool r1, .int .i64 t0, .int .i64 t1, .int .i64 u0, .int .i64 u1], .int .i64 0] w fun e w' => e = .returned (.tuple #[.agg #[.bool c, .bool r0, .bool r1, .int .i64 t0, .int .i64 t1, .int .i64 u0, .int .i64 u1], .int .i64 0, .agg #[.int .i64 0, .int .i64 0]]) ∧ Below w.heap.size w w' := by
  have HC : Hid (∀ W, Calls Try.prog 21 #[.agg #[.bool c, .bool r0, .bool r1, .int .i64 t0, .int .i64 t1, .int .i64 u0, .int .i64 u1], .int .i64 0] W fun e w' => e = .returned (.agg #[.int .i64 0, .int .i64 F1]) ∧ Below W.heap.size W w') := fun W => checkOn_any W c r0 r1 t0 t1 u0 u1 0 C0 C1 0 F1 hC hF
  have HL : Hid (∀ W, Calls Try.prog 22 #[.agg #[.bool c, .bool r0, .bool r1, .int .i64 t0, .int .i64 t1, .int .i64 u0, .int .i64 u1], .int .i64 0] W fun e w' => e = .returned (.tuple #[.agg #[.bool c, .bool r0, .bool r1, .int .i64 0, .int .i64 t1, .int .i64 u0, .int .i64 u1], .int .i64 t0]) ∧ Below W.heap.size W w') := fun W => leave0_any W c r0 r1 t0 t1 u0 u1
  clear hF hC
  subst hc
  obtain ⟨W0, e0, hB, k0, k1, k2⟩ := three_new w (.cells #[.bool true, .bool r0, .bool r1, .int .i64 t0, .int .i64 t1, .int .i64 u0, .int .i64 u1] 25) (.cells #[.bool false, .bool false, .bool false, .int .i64 0, .int .i64 0, .int .i64 0, .int .i64 0] 25) (.cells #[.int .i64 0, .int .i64 0] 27)
  have HX := hide hB; have HE := hide e0; have HD := hide k0; have HZ := hide k1; have HG := hide k2
  clear hB e0 k0 k1 k2
  go_enter Try.func8, Try.ntmps8
  go_upto_region 1 with fail
  rw [unhide HE]
  clear HE
  obtain ⟨⟨p0, p1, p2, p3, p4, p5, p6⟩, ⟨pf0, pf1, pf2, pf3, pf4, pf5, pf6⟩, pl⟩ := block7 (unhide HD)
  go_upto_region 2 with (go_at_call 21; refine (unhide HC _).mono ?_; rintro e w1 ⟨rfl, hb1⟩; have HX' := hide (Below.next (unhide HX) hb1 (Nat.le_refl _)); have HD' := hide (keep_below (unhide HD) hb1); have HZ' := hide (keep_below (unhide HZ) hb1); have HG' := hide (keep_below (unhide HG) hb1); clear p0 p1 p2 p3 p4 p5 p6 pf0 pf1 pf2 pf3 pf4 pf5 pf6 pl ; clear HX HD HZ HG hb1; have HX := HX'; have HD := HD'; have HZ := HZ'; have HG := HG'; clear HX' HD' HZ' HG')
  obtain ⟨W1, e1, hB1, k1⟩ := one_new w1 (.cells #[.int .i64 0, .int .i64 F1] 27)
  rw [e1]
  have HX' := hide (Below.next (unhide HX) hB1 (Nat.le_refl _))
  have HD' := hide (keep_below (unhide HD) hB1)
  have HZ' := hide (keep_below (unhide HZ) hB1)
  have HG' := hide (keep_below (unhide HG) hB1)
  have hlD_F := size_of (unhide HD)
  have hlZ_F := size_of (unhide HZ)
  have hlG_F := size_of (unhide HG)
  have HF := hide k1
  clear e1 hB1 k1 HX HD HZ HG
  have HX := HX'; have HD := HD'; have HZ := HZ'; have HG := HG'
  clear HX' HD' HZ' HG'
  obtain ⟨TF, eTF⟩ : ∃ X, w1.heap.size = X := ⟨_, rfl⟩
  rw [eTF] at HF hlD_F hlZ_F hlG_F ⊢
  clear eTF
  obtain ⟨f0, f1, ff0, ff1, fl⟩ := block2 (unhide HF)
  obtain ⟨g0, g1, gf0, gf1, gl⟩ := block2 (unhide HG)
  obtain ⟨⟨p0, p1, p2, p3, p4, p5, p6⟩, ⟨pf0, pf1, pf2, pf3, pf4, pf5, pf6⟩, pl⟩ := block7 (unhide HD)
  obtain ⟨⟨z0, z1, z2, z3, z4, z5, z6⟩, ⟨zf0, zf1, zf2, zf3, zf4, zf5, zf6⟩, zl⟩ := block7 (unhide HZ)
  have uf : w.heap.size + 1 + 1 ≠ TF := by omega
  have uf2 : TF ≠ w.heap.size + 1 + 1 := by omega
  have ug : w.heap.size + 1 ≠ TF := by omega
  have ug2 : TF ≠ w.heap.size + 1 := by omega
  go_wp2_with fail
  exact bodyPost_ret (v := .tuple #[.agg #[.bool true, .bool r0, .bool r1, .int .i64 t0, .int .i64 t1, .int .i64 u0, .int .i64 u1], .int .i64 0, .agg #[.int .i64 0, .int .i64 0]]) (by simp [results, Try.results8, go_sem, g0, g1, z0, z1, z2, z3, z4, z5, z6]) rfl ⟨rfl, (by repeat (first | with_reducible exact unhide HX | with_reducible refine drew_below ?_ | (with_reducible refine below_set ?_ (by omega) _)))⟩

set_option maxRecDepth 100000 in
set_option maxHeartbeats 2000000 in
theorem fire0_well (w : World) (c r0 r1 : Bool) (t0 t1 u0 u1 C0 C1 F1 : Int) (hC : descF c r0 r1 t0 t1 u0 u1 = (C0, C1)) (hF : onF (C0, C1) 0 = (0, F1)) (hc : c = false) :
    Calls Try.prog 8 #[.agg #[.bool c, .bool r0, .bool r1, .int .i64 t0, .int .i64 t1, .int .i64 u0, .int .i64 u1], .int .i64 0] w fun e w' => e = .returned (.tuple #[.agg #[.bool c, .bool (t0 == 0), .bool r1, .int .i64 0, .int .i64 t1, .int .i64 u0, .int .i64 u1], .int .i64 t0, .agg #[.int .i64 0, .int .i64 0]]) ∧ Below w.heap.size w w' := by
  have HC : Hid (∀ W, Calls Try.prog 21 #[.agg #[.bool c, .bool r0, .bool r1, .int .i64 t0, .int .i64 t1, .int .i64 u0, .int .i64 u1], .int .i64 0] W fun e w' => e = .returned (.agg #[.int .i64 0, .int .i64 F1]) ∧ Below W.heap.size W w') := fun W => checkOn_any W c r0 r1 t0 t1 u0 u1 0 C0 C1 0 F1 hC hF
  have HL : Hid (∀ W, Calls Try.prog 22 #[.agg #[.bool c, .bool r0, .bool r1, .int .i64 t0, .int .i64 t1, .int .i64 u0, .int .i64 u1], .int .i64 0] W fun e w' => e = .returned (.tuple #[.agg #[.bool c, .bool r0, .bool r1, .int .i64 0, .int .i64 t1, .int .i64 u0, .int .i64 u1], .int .i64 t0]) ∧ Below W.heap.size W w') := fun W => leave0_any W c r0 r1 t0 t1 u0 u1
  clear hF hC
  subst hc
  obtain ⟨W0, e0, hB, k0, k1, k2⟩ := three_new w (.cells #[.bool false, .bool r0, .bool r1, .int .i64 t0, .int .i64 t1, .int .i64 u0, .int .i64 u1] 25) (.cells #[.bool false, .bool false, .bool false, .int .i64 0, .int .i64 0, .int .i64 0, .int .i64 0] 25) (.cells #[.int .i64 0, .int .i64 0] 27)
  have HX := hide hB; have HE := hide e0; have HD := hide k0; have HZ := hide k1; have HG := hide k2
  clear hB e0 k0 k1 k2
  go_enter Try.func8, Try.ntmps8
  go_upto_region 1 with fail
  rw [unhide HE]
  clear HE
  obtain ⟨⟨p0, p1, p2, p3, p4, p5, p6⟩, ⟨pf0, pf1, pf2, pf3, pf4, pf5, pf6⟩, pl⟩ := block7 (unhide HD)
  go_upto_region 2 with (go_at_call 21; refine (unhide HC _).mono ?_; rintro e w1 ⟨rfl, hb1⟩; have HX' := hide (Below.next (unhide HX) hb1 (Nat.le_refl _)); have HD' := hide (keep_below (unhide HD) hb1); have HZ' := hide (keep_below (unhide HZ) hb1); have HG' := hide (keep_below (unhide HG) hb1); clear p0 p1 p2 p3 p4 p5 p6 pf0 pf1 pf2 pf3 pf4 pf5 pf6 pl ; clear HX HD HZ HG hb1; have HX := HX'; have HD := HD'; have HZ := HZ'; have HG := HG'; clear HX' HD' HZ' HG')
  obtain ⟨W1, e1, hB1, k1⟩ := one_new w1 (.cells #[.int .i64 0, .int .i64 F1] 27)
  rw [e1]
  have HX' := hide (Below.next (unhide HX) hB1 (Nat.le_refl _))
  have HD' := hide (keep_below (unhide HD) hB1)
  have HZ' := hide (keep_below (unhide HZ) hB1)
  have HG' := hide (keep_below (unhide HG) hB1)
  have hlD_F := size_of (unhide HD)
  have hlZ_F := size_of (unhide HZ)
  have hlG_F := size_of (unhide HG)
  have HF := hide k1
  clear e1 hB1 k1 HX HD HZ HG
  have HX := HX'; have HD := HD'; have HZ := HZ'; have HG := HG'
  clear HX' HD' HZ' HG'
  obtain ⟨TF, eTF⟩ : ∃ X, w1.heap.size = X := ⟨_, rfl⟩
  rw [eTF] at HF hlD_F hlZ_F hlG_F ⊢
  clear eTF
  obtain ⟨f0, f1, ff0, ff1, fl⟩ := block2 (unhide HF)
  obtain ⟨g0, g1, gf0, gf1, gl⟩ := block2 (unhide HG)
  obtain ⟨⟨p0, p1, p2, p3, p4, p5, p6⟩, ⟨pf0, pf1, pf2, pf3, pf4, pf5, pf6⟩, pl⟩ := block7 (unhide HD)
  obtain ⟨⟨z0, z1, z2, z3, z4, z5, z6⟩, ⟨zf0, zf1, zf2, zf3, zf4, zf5, zf6⟩, zl⟩ := block7 (unhide HZ)
  have uf : w.heap.size + 1 + 1 ≠ TF := by omega
  have uf2 : TF ≠ w.heap.size + 1 + 1 := by omega
  have ug : w.heap.size + 1 ≠ TF := by omega
  have ug2 : TF ≠ w.heap.size + 1 := by omega
  go_upto_region 7 with (go_at_call 22; refine (unhide HL _).mono ?_; rintro e w3 ⟨rfl, hb3⟩; have HX' := hide (Below.next (unhide HX) hb3 (Nat.le_refl _)); have HD' := hide (keep_below (unhide HD) hb3); have HZ' := hide (keep_below (unhide HZ) hb3); have HG' := hide (keep_below (unhide HG) hb3); have HF' := hide (keep_below (unhide HF) hb3); clear HX HD HZ HG HF hb3; have HX := HX'; have HD := HD'; have HZ := HZ'; have HG := HG'; have HF := HF'; clear HX' HD' HZ' HG' HF'; clear p0 p1 p2 p3 p4 p5 p6 pf0 pf1 pf2 pf3 pf4 pf5 pf6 pl; clear z0 z1 z2 z3 z4 z5 z6 zf0 zf1 zf2 zf3 zf4 zf5 zf6 zl g0 g1 gf0 gf1 gl f0 f1 ff0 ff1 fl)
  obtain ⟨W3, e3, hB3, k3⟩ := one_new w3 (.cells #[.bool false, .bool r0, .bool r1, .int .i64 0, .int .i64 t1, .int .i64 u0, .int .i64 u1] 25)
  rw [e3]
  have HX' := hide (Below.next (unhide HX) hB3 (Nat.le_refl _))
  have HD' := hide (keep_below (unhide HD) hB3)
  have HZ' := hide (keep_below (unhide HZ) hB3)
  have HG' := hide (keep_below (unhide HG) hB3)
  have HF' := hide (keep_below (unhide HF) hB3)
  have hlD_H := size_of (unhide HD)
  have hlZ_H := size_of (unhide HZ)
  have hlG_H := size_of (unhide HG)
  have hlF_H := size_of (unhide HF)
  have HH := hide k3
  clear e3 hB3 k3 HX HD HZ HG HF
  have HX := HX'; have HD := HD'; have HZ := HZ'; have HG := HG'; have HF := HF'
  clear HX' HD' HZ' HG' HF'
  obtain ⟨TH, eTH⟩ : ∃ X, w3.heap.size = X := ⟨_, rfl⟩
  rw [eTH] at HH hlD_H hlZ_H hlG_H hlF_H ⊢
  clear eTH
  obtain ⟨⟨h0, h1, h2, h3, h4, h5, h6⟩, ⟨hf0, hf1, hf2, hf3, hf4, hf5, hf6⟩, hl⟩ := block7 (unhide HH)
  obtain ⟨g0, g1, gf0, gf1, gl⟩ := block2 (unhide HG)
  obtain ⟨⟨z0, z1, z2, z3, z4, z5, z6⟩, ⟨zf0, zf1, zf2, zf3, zf4, zf5, zf6⟩, zl⟩ := block7 (unhide HZ)
  have uh : w.heap.size + 1 + 1 ≠ TH := by omega
  have uh2 : TH ≠ w.heap.size + 1 + 1 := by omega
  have ui : w.heap.size + 1 ≠ TH := by omega
  have ui2 : TH ≠ w.heap.size + 1 := by omega
  go_wp2_with fail
  exact bodyPost_ret (v := .tuple #[.agg #[.bool false, .bool (t0 == 0), .bool r1, .int .i64 0, .int .i64 t1, .int .i64 u0, .int .i64 u1], .int .i64 t0, .agg #[.int .i64 0, .int .i64 0]]) (by simp [results, Try.results8, go_sem, g0, g1, z0, z1, z2, z3, z4, z5, z6]) rfl ⟨rfl, (by repeat (first | with_reducible exact unhide HX | with_reducible refine drew_below ?_ | (with_reducible refine below_set ?_ (by omega) _)))⟩

set_option maxRecDepth 100000 in
set_option maxHeartbeats 2000000 in
theorem fire1_closed (w : World) (c r0 r1 : Bool) (t0 t1 u0 u1 C0 C1 F1 : Int) (hC : descF c r0 r1 t0 t1 u0 u1 = (C0, C1)) (hF : onF (C0, C1) 1 = (0, F1)) (hc : c = true) :
    Calls Try.prog 8 #[.agg #[.bool c, .bool r0, .bool r1, .int .i64 t0, .int .i64 t1, .int .i64 u0, .int .i64 u1], .int .i64 1] w fun e w' => e = .returned (.tuple #[.agg #[.bool c, .bool r0, .bool r1, .int .i64 t0, .int .i64 t1, .int .i64 u0, .int .i64 u1], .int .i64 0, .agg #[.int .i64 0, .int .i64 0]]) ∧ Below w.heap.size w w' := by
  have HC : Hid (∀ W, Calls Try.prog 21 #[.agg #[.bool c, .bool r0, .bool r1, .int .i64 t0, .int .i64 t1, .int .i64 u0, .int .i64 u1], .int .i64 1] W fun e w' => e = .returned (.agg #[.int .i64 0, .int .i64 F1]) ∧ Below W.heap.size W w') := fun W => checkOn_any W c r0 r1 t0 t1 u0 u1 1 C0 C1 0 F1 hC hF
  have HL : Hid (∀ W, Calls Try.prog 22 #[.agg #[.bool c, .bool r0, .bool r1, .int .i64 t0, .int .i64 t1, .int .i64 u0, .int .i64 u1], .int .i64 1] W fun e w' => e = .returned (.tuple #[.agg #[.bool c, .bool r0, .bool r1, .int .i64 t0, .int .i64 0, .int .i64 u0, .int .i64 u1], .int .i64 t1]) ∧ Below W.heap.size W w') := fun W => leave1_any W c r0 r1 t0 t1 u0 u1
  clear hF hC
  subst hc
  obtain ⟨W0, e0, hB, k0, k1, k2⟩ := three_new w (.cells #[.bool true, .bool r0, .bool r1, .int .i64 t0, .int .i64 t1, .int .i64 u0, .int .i64 u1] 25) (.cells #[.bool false, .bool false, .bool false, .int .i64 0, .int .i64 0, .int .i64 0, .int .i64 0] 25) (.cells #[.int .i64 0, .int .i64 0] 27)
  have HX := hide hB; have HE := hide e0; have HD := hide k0; have HZ := hide k1; have HG := hide k2
  clear hB e0 k0 k1 k2
  go_enter Try.func8, Try.ntmps8
  go_upto_region 1 with fail
  rw [unhide HE]
  clear HE
  obtain ⟨⟨p0, p1, p2, p3, p4, p5, p6⟩, ⟨pf0, pf1, pf2, pf3, pf4, pf5, pf6⟩, pl⟩ := block7 (unhide HD)
  go_upto_region 2 with (go_at_call 21; refine (unhide HC _).mono ?_; rintro e w1 ⟨rfl, hb1⟩; have HX' := hide (Below.next (unhide HX) hb1 (Nat.le_refl _)); have HD' := hide (keep_below (unhide HD) hb1); have HZ' := hide (keep_below (unhide HZ) hb1); have HG' := hide (keep_below (unhide HG) hb1); clear p0 p1 p2 p3 p4 p5 p6 pf0 pf1 pf2 pf3 pf4 pf5 pf6 pl ; clear HX HD HZ HG hb1; have HX := HX'; have HD := HD'; have HZ := HZ'; have HG := HG'; clear HX' HD' HZ' HG')
  obtain ⟨W1, e1, hB1, k1⟩ := one_new w1 (.cells #[.int .i64 0, .int .i64 F1] 27)
  rw [e1]
  have HX' := hide (Below.next (unhide HX) hB1 (Nat.le_refl _))
  have HD' := hide (keep_below (unhide HD) hB1)
  have HZ' := hide (keep_below (unhide HZ) hB1)
  have HG' := hide (keep_below (unhide HG) hB1)
  have hlD_F := size_of (unhide HD)
  have hlZ_F := size_of (unhide HZ)
  have hlG_F := size_of (unhide HG)
  have HF := hide k1
  clear e1 hB1 k1 HX HD HZ HG
  have HX := HX'; have HD := HD'; have HZ := HZ'; have HG := HG'
  clear HX' HD' HZ' HG'
  obtain ⟨TF, eTF⟩ : ∃ X, w1.heap.size = X := ⟨_, rfl⟩
  rw [eTF] at HF hlD_F hlZ_F hlG_F ⊢
  clear eTF
  obtain ⟨f0, f1, ff0, ff1, fl⟩ := block2 (unhide HF)
  obtain ⟨g0, g1, gf0, gf1, gl⟩ := block2 (unhide HG)
  obtain ⟨⟨p0, p1, p2, p3, p4, p5, p6⟩, ⟨pf0, pf1, pf2, pf3, pf4, pf5, pf6⟩, pl⟩ := block7 (unhide HD)
  obtain ⟨⟨z0, z1, z2, z3, z4, z5, z6⟩, ⟨zf0, zf1, zf2, zf3, zf4, zf5, zf6⟩, zl⟩ := block7 (unhide HZ)
  have uf : w.heap.size + 1 + 1 ≠ TF := by omega
  have uf2 : TF ≠ w.heap.size + 1 + 1 := by omega
  have ug : w.heap.size + 1 ≠ TF := by omega
  have ug2 : TF ≠ w.heap.size + 1 := by omega
  go_wp2_with fail
  exact bodyPost_ret (v := .tuple #[.agg #[.bool true, .bool r0, .bool r1, .int .i64 t0, .int .i64 t1, .int .i64 u0, .int .i64 u1], .int .i64 0, .agg #[.int .i64 0, .int .i64 0]]) (by simp [results, Try.results8, go_sem, g0, g1, z0, z1, z2, z3, z4, z5, z6]) rfl ⟨rfl, (by repeat (first | with_reducible exact unhide HX | with_reducible refine drew_below ?_ | (with_reducible refine below_set ?_ (by omega) _)))⟩

set_option maxRecDepth 100000 in
set_option maxHeartbeats 2000000 in
theorem fire1_well (w : World) (c r0 r1 : Bool) (t0 t1 u0 u1 C0 C1 F1 : Int) (hC : descF c r0 r1 t0 t1 u0 u1 = (C0, C1)) (hF : onF (C0, C1) 1 = (0, F1)) (hc : c = false) :
    Calls Try.prog 8 #[.agg #[.bool c, .bool r0, .bool r1, .int .i64 t0, .int .i64 t1, .int .i64 u0, .int .i64 u1], .int .i64 1] w fun e w' => e = .returned (.tuple #[.agg #[.bool c, .bool r0, .bool (t1 == 0), .int .i64 t0, .int .i64 0, .int .i64 u0, .int .i64 u1], .int .i64 t1, .agg #[.int .i64 0, .int .i64 0]]) ∧ Below w.heap.size w w' := by
  have HC : Hid (∀ W, Calls Try.prog 21 #[.agg #[.bool c, .bool r0, .bool r1, .int .i64 t0, .int .i64 t1, .int .i64 u0, .int .i64 u1], .int .i64 1] W fun e w' => e = .returned (.agg #[.int .i64 0, .int .i64 F1]) ∧ Below W.heap.size W w') := fun W => checkOn_any W c r0 r1 t0 t1 u0 u1 1 C0 C1 0 F1 hC hF
  have HL : Hid (∀ W, Calls Try.prog 22 #[.agg #[.bool c, .bool r0, .bool r1, .int .i64 t0, .int .i64 t1, .int .i64 u0, .int .i64 u1], .int .i64 1] W fun e w' => e = .returned (.tuple #[.agg #[.bool c, .bool r0, .bool r1, .int .i64 t0, .int .i64 0, .int .i64 u0, .int .i64 u1], .int .i64 t1]) ∧ Below W.heap.size W w') := fun W => leave1_any W c r0 r1 t0 t1 u0 u1
  clear hF hC
  subst hc
  obtain ⟨W0, e0, hB, k0, k1, k2⟩ := three_new w (.cells #[.bool false, .bool r0, .bool r1, .int .i64 t0, .int .i64 t1, .int .i64 u0, .int .i64 u1] 25) (.cells #[.bool false, .bool false, .bool false, .int .i64 0, .int .i64 0, .int .i64 0, .int .i64 0] 25) (.cells #[.int .i64 0, .int .i64 0] 27)
  have HX := hide hB; have HE := hide e0; have HD := hide k0; have HZ := hide k1; have HG := hide k2
  clear hB e0 k0 k1 k2
  go_enter Try.func8, Try.ntmps8
  go_upto_region 1 with fail
  rw [unhide HE]
  clear HE
  obtain ⟨⟨p0, p1, p2, p3, p4, p5, p6⟩, ⟨pf0, pf1, pf2, pf3, pf4, pf5, pf6⟩, pl⟩ := block7 (unhide HD)
  go_upto_region 2 with (go_at_call 21; refine (unhide HC _).mono ?_; rintro e w1 ⟨rfl, hb1⟩; have HX' := hide (Below.next (unhide HX) hb1 (Nat.le_refl _)); have HD' := hide (keep_below (unhide HD) hb1); have HZ' := hide (keep_below (unhide HZ) hb1); have HG' := hide (keep_below (unhide HG) hb1); clear p0 p1 p2 p3 p4 p5 p6 pf0 pf1 pf2 pf3 pf4 pf5 pf6 pl ; clear HX HD HZ HG hb1; have HX := HX'; have HD := HD'; have HZ := HZ'; have HG := HG'; clear HX' HD' HZ' HG')
  obtain ⟨W1, e1, hB1, k1⟩ := one_new w1 (.cells #[.int .i64 0, .int .i64 F1] 27)
  rw [e1]
  have HX' := hide (Below.next (unhide HX) hB1 (Nat.le_refl _))
  have HD' := hide (keep_below (unhide HD) hB1)
  have HZ' := hide (keep_below (unhide HZ) hB1)
  have HG' := hide (keep_below (unhide HG) hB1)
  have hlD_F := size_of (unhide HD)
  have hlZ_F := size_of (unhide HZ)
  have hlG_F := size_of (unhide HG)
  have HF := hide k1
  clear e1 hB1 k1 HX HD HZ HG
  have HX := HX'; have HD := HD'; have HZ := HZ'; have HG := HG'
  clear HX' HD' HZ' HG'
  obtain ⟨TF, eTF⟩ : ∃ X, w1.heap.size = X := ⟨_, rfl⟩
  rw [eTF] at HF hlD_F hlZ_F hlG_F ⊢
  clear eTF
  obtain ⟨f0, f1, ff0, ff1, fl⟩ := block2 (unhide HF)
  obtain ⟨g0, g1, gf0, gf1, gl⟩ := block2 (unhide HG)
  obtain ⟨⟨p0, p1, p2, p3, p4, p5, p6⟩, ⟨pf0, pf1, pf2, pf3, pf4, pf5, pf6⟩, pl⟩ := block7 (unhide HD)
  obtain ⟨⟨z0, z1, z2, z3, z4, z5, z6⟩, ⟨zf0, zf1, zf2, zf3, zf4, zf5, zf6⟩, zl⟩ := block7 (unhide HZ)
  have uf : w.heap.size + 1 + 1 ≠ TF := by omega
  have uf2 : TF ≠ w.heap.size + 1 + 1 := by omega
  have ug : w.heap.size + 1 ≠ TF := by omega
  have ug2 : TF ≠ w.heap.size + 1 := by omega
  go_upto_region 7 with (go_at_call 22; refine (unhide HL _).mono ?_; rintro e w3 ⟨rfl, hb3⟩; have HX' := hide (Below.next (unhide HX) hb3 (Nat.le_refl _)); have HD' := hide (keep_below (unhide HD) hb3); have HZ' := hide (keep_below (unhide HZ) hb3); have HG' := hide (keep_below (unhide HG) hb3); have HF' := hide (keep_below (unhide HF) hb3); clear HX HD HZ HG HF hb3; have HX := HX'; have HD := HD'; have HZ := HZ'; have HG := HG'; have HF := HF'; clear HX' HD' HZ' HG' HF'; clear p0 p1 p2 p3 p4 p5 p6 pf0 pf1 pf2 pf3 pf4 pf5 pf6 pl; clear z0 z1 z2 z3 z4 z5 z6 zf0 zf1 zf2 zf3 zf4 zf5 zf6 zl g0 g1 gf0 gf1 gl f0 f1 ff0 ff1 fl)
  obtain ⟨W3, e3, hB3, k3⟩ := one_new w3 (.cells #[.bool false, .bool r0, .bool r1, .int .i64 t0, .int .i64 0, .int .i64 u0, .int .i64 u1] 25)
  rw [e3]
  have HX' := hide (Below.next (unhide HX) hB3 (Nat.le_refl _))
  have HD' := hide (keep_below (unhide HD) hB3)
  have HZ' := hide (keep_below (unhide HZ) hB3)
  have HG' := hide (keep_below (unhide HG) hB3)
  have HF' := hide (keep_below (unhide HF) hB3)
  have hlD_H := size_of (unhide HD)
  have hlZ_H := size_of (unhide HZ)
  have hlG_H := size_of (unhide HG)
  have hlF_H := size_of (unhide HF)
  have HH := hide k3
  clear e3 hB3 k3 HX HD HZ HG HF
  have HX := HX'; have HD := HD'; have HZ := HZ'; have HG := HG'; have HF := HF'
  clear HX' HD' HZ' HG' HF'
  obtain ⟨TH, eTH⟩ : ∃ X, w3.heap.size = X := ⟨_, rfl⟩
  rw [eTH] at HH hlD_H hlZ_H hlG_H hlF_H ⊢
  clear eTH
  obtain ⟨⟨h0, h1, h2, h3, h4, h5, h6⟩, ⟨hf0, hf1, hf2, hf3, hf4, hf5, hf6⟩, hl⟩ := block7 (unhide HH)
  obtain ⟨g0, g1, gf0, gf1, gl⟩ := block2 (unhide HG)
  obtain ⟨⟨z0, z1, z2, z3, z4, z5, z6⟩, ⟨zf0, zf1, zf2, zf3, zf4, zf5, zf6⟩, zl⟩ := block7 (unhide HZ)
  have uh : w.heap.size + 1 + 1 ≠ TH := by omega
  have uh2 : TH ≠ w.heap.size + 1 + 1 := by omega
  have ui : w.heap.size + 1 ≠ TH := by omega
  have ui2 : TH ≠ w.heap.size + 1 := by omega
  go_wp2_with fail
  exact bodyPost_ret (v := .tuple #[.agg #[.bool false, .bool r0, .bool (t1 == 0), .int .i64 t0, .int .i64 0, .int .i64 u0, .int .i64 u1], .int .i64 t1, .agg #[.int .i64 0, .int .i64 0]]) (by simp [results, Try.results8, go_sem, g0, g1, z0, z1, z2, z3, z4, z5, z6]) rfl ⟨rfl, (by repeat (first | with_reducible exact unhide HX | with_reducible refine drew_below ?_ | (with_reducible refine below_set ?_ (by omega) _)))⟩

set_option maxRecDepth 100000 in
set_option maxHeartbeats 2000000 in
theorem until_fault (w : World) (c r0 r1 : Bool) (t0 t1 u0 u1 way whn now C0 C1 F0 F1 : Int) (hC : descF c r0 r1 t0 t1 u0 u1 = (C0, C1)) (hF : untilF (onF (C0, C1) way) c whn now = (F0, F1)) (hbad : F0 ≠ 0) :
    Calls Try.prog 14 #[.agg #[.bool c, .bool r0, .bool r1, .int .i64 t0, .int .i64 t1, .int .i64 u0, .int .i64 u1], .int .i64 way, .int .i64 whn, .int .i64 now] w fun e w' => e = .returned (.tuple #[.agg #[.bool false, .bool false, .bool false, .int .i64 0, .int .i64 0, .int .i64 0, .int .i64 0], .int .i64 0, .agg #[.int .i64 F0, .int .i64 F1]]) ∧ Below w.heap.size w w' := by
  have HC : Hid (∀ W, Calls Try.prog 23 #[.agg #[.bool c, .bool r0, .bool r1, .int .i64 t0, .int .i64 t1, .int .i64 u0, .int .i64 u1], .int .i64 way, .int .i64 whn, .int .i64 now] W fun e w' => e = .returned (.agg #[.int .i64 F0, .int .i64 F1]) ∧ Below W.heap.size W w') := fun W => checkUntil_any W c r0 r1 t0 t1 u0 u1 way whn now C0 C1 F0 F1 hC hF
  have xc : (F0 != 0) = true := by simpa using hbad
  clear hF hC hbad
  obtain ⟨W0, e0, hB, k0, k1, k2⟩ := three_new w (.cells #[.bool c, .bool r0, .bool r1, .int .i64 t0, .int .i64 t1, .int .i64 u0, .int .i64 u1] 25) (.cells #[.bool false, .bool false, .bool false, .int .i64 0, .int .i64 0, .int .i64 0, .int .i64 0] 25) (.cells #[.int .i64 0, .int .i64 0] 27)
  have HX := hide hB; have HE := hide e0; have HD := hide k0; have HZ := hide k1; have HG := hide k2
  clear hB e0 k0 k1 k2
  go_enter Try.func14, Try.ntmps14
  go_upto_region 1 with fail
  rw [unhide HE]
  clear HE
  obtain ⟨⟨p0, p1, p2, p3, p4, p5, p6⟩, ⟨pf0, pf1, pf2, pf3, pf4, pf5, pf6⟩, pl⟩ := block7 (unhide HD)
  go_upto_region 2 with (go_at_call 23; refine (unhide HC _).mono ?_; rintro e w1 ⟨rfl, hb1⟩; have HX' := hide (Below.next (unhide HX) hb1 (Nat.le_refl _)); have HD' := hide (keep_below (unhide HD) hb1); have HZ' := hide (keep_below (unhide HZ) hb1); have HG' := hide (keep_below (unhide HG) hb1); clear p0 p1 p2 p3 p4 p5 p6 pf0 pf1 pf2 pf3 pf4 pf5 pf6 pl ; clear HX HD HZ HG hb1; have HX := HX'; have HD := HD'; have HZ := HZ'; have HG := HG'; clear HX' HD' HZ' HG')
  obtain ⟨W1, e1, hB1, k1⟩ := one_new w1 (.cells #[.int .i64 F0, .int .i64 F1] 27)
  rw [e1]
  have HX' := hide (Below.next (unhide HX) hB1 (Nat.le_refl _))
  have HD' := hide (keep_below (unhide HD) hB1)
  have HZ' := hide (keep_below (unhide HZ) hB1)
  have HG' := hide (keep_below (unhide HG) hB1)
  have hlD_F := size_of (unhide HD)
  have hlZ_F := size_of (unhide HZ)
  have hlG_F := size_of (unhide HG)
  have HF := hide k1
  clear e1 hB1 k1 HX HD HZ HG
  have HX := HX'; have HD := HD'; have HZ := HZ'; have HG := HG'
  clear HX' HD' HZ' HG'
  obtain ⟨TF, eTF⟩ : ∃ X, w1.heap.size = X := ⟨_, rfl⟩
  rw [eTF] at HF hlD_F hlZ_F hlG_F ⊢
  clear eTF
  obtain ⟨f0, f1, ff0, ff1, fl⟩ := block2 (unhide HF)
  obtain ⟨g0, g1, gf0, gf1, gl⟩ := block2 (unhide HG)
  obtain ⟨⟨p0, p1, p2, p3, p4, p5, p6⟩, ⟨pf0, pf1, pf2, pf3, pf4, pf5, pf6⟩, pl⟩ := block7 (unhide HD)
  obtain ⟨⟨z0, z1, z2, z3, z4, z5, z6⟩, ⟨zf0, zf1, zf2, zf3, zf4, zf5, zf6⟩, zl⟩ := block7 (unhide HZ)
  have uf : w.heap.size + 1 + 1 ≠ TF := by omega
  have uf2 : TF ≠ w.heap.size + 1 + 1 := by omega
  have ug : w.heap.size + 1 ≠ TF := by omega
  have ug2 : TF ≠ w.heap.size + 1 := by omega
  go_upto_region 3 with fail
  go_wp2_with fail
  go_region
  all_goals
    go_wp2_with fail
    exact bodyPost_ret (v := .tuple #[.agg #[.bool false, .bool false, .bool false, .int .i64 0, .int .i64 0, .int .i64 0, .int .i64 0], .int .i64 0, .agg #[.int .i64 F0, .int .i64 F1]]) (by simp [results, Try.results14, go_sem, g0, g1, z0, z1, z2, z3, z4, z5, z6]) rfl ⟨rfl, (by repeat (first | with_reducible exact unhide HX | with_reducible refine drew_below ?_ | (with_reducible refine below_set ?_ (by omega) _)))⟩

set_option maxRecDepth 100000 in
set_option maxHeartbeats 2000000 in
theorem until0_not (w : World) (c r0 r1 : Bool) (t0 t1 u0 u1 whn now C0 C1 F1 : Int) (hC : descF c r0 r1 t0 t1 u0 u1 = (C0, C1)) (hF : untilF (onF (C0, C1) 0) c whn now = (0, F1)) (hl : late whn now = false) :
    Calls Try.prog 14 #[.agg #[.bool c, .bool r0, .bool r1, .int .i64 t0, .int .i64 t1, .int .i64 u0, .int .i64 u1], .int .i64 0, .int .i64 whn, .int .i64 now] w fun e w' => e = .returned (.tuple #[.agg #[.bool c, .bool r0, .bool r1, .int .i64 t0, .int .i64 t1, .int .i64 whn, .int .i64 u1], .int .i64 0, .agg #[.int .i64 0, .int .i64 0]]) ∧ Below w.heap.size w w' := by
  have HC : Hid (∀ W, Calls Try.prog 23 #[.agg #[.bool c, .bool r0, .bool r1, .int .i64 t0, .int .i64 t1, .int .i64 u0, .int .i64 u1], .int .i64 0, .int .i64 whn, .int .i64 now] W fun e w' => e = .returned (.agg #[.int .i64 0, .int .i64 F1]) ∧ Below W.heap.size W w') := fun W => checkUntil_any W c r0 r1 t0 t1 u0 u1 0 whn now C0 C1 0 F1 hC hF
  have HL : Hid (∀ W, Calls Try.prog 20 #[.agg #[.bool c, .bool r0, .bool r1, .int .i64 t0, .int .i64 t1, .int .i64 whn, .int .i64 u1], .int .i64 0, .int .i64 now] W fun e w' => e = .returned (.bool false) ∧ Below W.heap.size W w') := fun W => by have := lateOn0_any W c r0 r1 t0 t1 whn u1 now; rw [hl] at this; exact this
  have HV : Hid (∀ W, Calls Try.prog 22 #[.agg #[.bool c, .bool r0, .bool r1, .int .i64 t0, .int .i64 t1, .int .i64 whn, .int .i64 u1], .int .i64 0] W fun e w' => e = .returned (.tuple #[.agg #[.bool c, .bool r0, .bool r1, .int .i64 0, .int .i64 t1, .int .i64 whn, .int .i64 u1], .int .i64 t0]) ∧ Below W.heap.size W w') := fun W => leave0_any W c r0 r1 t0 t1 whn u1
  clear hF hC hl
  obtain ⟨W0, e0, hB, k0, k1, k2⟩ := three_new w (.cells #[.bool c, .bool r0, .bool r1, .int .i64 t0, .int .i64 t1, .int .i64 u0, .int .i64 u1] 25) (.cells #[.bool false, .bool false, .bool false, .int .i64 0, .int .i64 0, .int .i64 0, .int .i64 0] 25) (.cells #[.int .i64 0, .int .i64 0] 27)
  have HX := hide hB; have HE := hide e0; have HD := hide k0; have HZ := hide k1; have HG := hide k2
  clear hB e0 k0 k1 k2
  go_enter Try.func14, Try.ntmps14
  go_upto_region 1 with fail
  rw [unhide HE]
  clear HE
  obtain ⟨⟨p0, p1, p2, p3, p4, p5, p6⟩, ⟨pf0, pf1, pf2, pf3, pf4, pf5, pf6⟩, pl⟩ := block7 (unhide HD)
  go_upto_region 2 with (go_at_call 23; refine (unhide HC _).mono ?_; rintro e w1 ⟨rfl, hb1⟩; have HX' := hide (Below.next (unhide HX) hb1 (Nat.le_refl _)); have HD' := hide (keep_below (unhide HD) hb1); have HZ' := hide (keep_below (unhide HZ) hb1); have HG' := hide (keep_below (unhide HG) hb1); clear p0 p1 p2 p3 p4 p5 p6 pf0 pf1 pf2 pf3 pf4 pf5 pf6 pl ; clear HX HD HZ HG hb1; have HX := HX'; have HD := HD'; have HZ := HZ'; have HG := HG'; clear HX' HD' HZ' HG')
  obtain ⟨W1, e1, hB1, k1⟩ := one_new w1 (.cells #[.int .i64 0, .int .i64 F1] 27)
  rw [e1]
  have HX' := hide (Below.next (unhide HX) hB1 (Nat.le_refl _))
  have HD' := hide (keep_below (unhide HD) hB1)
  have HZ' := hide (keep_below (unhide HZ) hB1)
  have HG' := hide (keep_below (unhide HG) hB1)
  have hlD_F := size_of (unhide HD)
  have hlZ_F := size_of (unhide HZ)
  have hlG_F := size_of (unhide HG)
  have HF := hide k1
  clear e1 hB1 k1 HX HD HZ HG
  have HX := HX'; have HD := HD'; have HZ := HZ'; have HG := HG'
  clear HX' HD' HZ' HG'
  obtain ⟨TF, eTF⟩ : ∃ X, w1.heap.size = X := ⟨_, rfl⟩
  rw [eTF] at HF hlD_F hlZ_F hlG_F ⊢
  clear eTF
  obtain ⟨f0, f1, ff0, ff1, fl⟩ := block2 (unhide HF)
  obtain ⟨g0, g1, gf0, gf1, gl⟩ := block2 (unhide HG)
  obtain ⟨⟨p0, p1, p2, p3, p4, p5, p6⟩, ⟨pf0, pf1, pf2, pf3, pf4, pf5, pf6⟩, pl⟩ := block7 (unhide HD)
  obtain ⟨⟨z0, z1, z2, z3, z4, z5, z6⟩, ⟨zf0, zf1, zf2, zf3, zf4, zf5, zf6⟩, zl⟩ := block7 (unhide HZ)
  have uf : w.heap.size + 1 + 1 ≠ TF := by omega
  have uf2 : TF ≠ w.heap.size + 1 + 1 := by omega
  have ug : w.heap.size + 1 ≠ TF := by omega
  have ug2 : TF ≠ w.heap.size + 1 := by omega
  go_upto_region 5 with fail
  have HX' := hide (below_set (i := 5) (unhide HX) (show w.heap.size ≤ w.heap.size from Nat.le_refl _) (.int .i64 whn))
  have HD' := hide (set_block7 (i := 5) (y := .int .i64 whn) (unhide HD))
  have HZ' := hide (keep_set (g := w.heap.size) (o := 5) (v := .int .i64 whn) (unhide HZ) (by omega))
  have HG' := hide (keep_set (g := w.heap.size) (o := 5) (v := .int .i64 whn) (unhide HG) (by omega))
  have HF' := hide (keep_set (g := w.heap.size) (o := 5) (v := .int .i64 whn) (unhide HF) (by omega))
  clear p0 p1 p2 p3 p4 p5 p6 pf0 pf1 pf2 pf3 pf4 pf5 pf6 pl
  clear z0 z1 z2 z3 z4 z5 z6 zf0 zf1 zf2 zf3 zf4 zf5 zf6 zl g0 g1 gf0 gf1 gl f0 f1 ff0 ff1 fl
  clear HX HD HZ HG HF
  obtain ⟨W2, eW2⟩ : ∃ X, W1.setCell ⟨w.heap.size, 5, none⟩ (.int .i64 whn) = X := ⟨_, rfl⟩
  rw [eW2] at HX' HD' HZ' HG' HF' ⊢
  clear eW2
  simp only [List.setIfInBounds_toArray, List.set_cons_zero, List.set_cons_succ] at HD'
  have HX := HX'; have HD := HD'; have HZ := HZ'; have HG := HG'; have HF := HF'
  clear HX' HD' HZ' HG' HF'
  obtain ⟨g0, g1, gf0, gf1, gl⟩ := block2 (unhide HG)
  obtain ⟨⟨p0, p1, p2, p3, p4, p5, p6⟩, ⟨pf0, pf1, pf2, pf3, pf4, pf5, pf6⟩, pl⟩ := block7 (unhide HD)
  obtain ⟨⟨z0, z1, z2, z3, z4, z5, z6⟩, ⟨zf0, zf1, zf2, zf3, zf4, zf5, zf6⟩, zl⟩ := block7 (unhide HZ)
  go_wp2_with (go_at_call 20; refine (unhide HL _).mono ?_; rintro e w3 ⟨rfl, hb3⟩; have HX' := hide (Below.next (unhide HX) hb3 (Nat.le_refl _)); have HD' := hide (keep_below (unhide HD) hb3); have HZ' := hide (keep_below (unhide HZ) hb3); have HG' := hide (keep_below (unhide HG) hb3); have HF' := hide (keep_below (unhide HF) hb3); clear HX HD HZ HG HF hb3; have HX := HX'; have HD := HD'; have HZ := HZ'; have HG := HG'; have HF := HF'; clear HX' HD' HZ' HG' HF'; clear p0 p1 p2 p3 p4 p5 p6 pf0 pf1 pf2 pf3 pf4 pf5 pf6 pl; clear z0 z1 z2 z3 z4 z5 z6 zf0 zf1 zf2 zf3 zf4 zf5 zf6 zl g0 g1 gf0 gf1 gl; obtain ⟨g0, g1, gf0, gf1, gl⟩ := block2 (unhide HG); obtain ⟨⟨p0, p1, p2, p3, p4, p5, p6⟩, ⟨pf0, pf1, pf2, pf3, pf4, pf5, pf6⟩, pl⟩ := block7 (unhide HD); obtain ⟨⟨z0, z1, z2, z3, z4, z5, z6⟩, ⟨zf0, zf1, zf2, zf3, zf4, zf5, zf6⟩, zl⟩ := block7 (unhide HZ))
  exact bodyPost_ret (v := .tuple #[.agg #[.bool c, .bool r0, .bool r1, .int .i64 t0, .int .i64 t1, .int .i64 whn, .int .i64 u1], .int .i64 0, .agg #[.int .i64 0, .int .i64 0]]) (by simp [results, Try.results14, go_sem, g0, g1, z0, z1, z2, z3, z4, z5, z6]) rfl ⟨rfl, (by repeat (first | with_reducible exact unhide HX | with_reducible refine drew_below ?_ | (with_reducible refine below_set ?_ (by omega) _)))⟩

set_option maxRecDepth 100000 in
set_option maxHeartbeats 2000000 in
theorem until0_late (w : World) (c r0 r1 : Bool) (t0 t1 u0 u1 whn now C0 C1 F1 : Int) (hC : descF c r0 r1 t0 t1 u0 u1 = (C0, C1)) (hF : untilF (onF (C0, C1) 0) c whn now = (0, F1)) (hl : late whn now = true) :
    Calls Try.prog 14 #[.agg #[.bool c, .bool r0, .bool r1, .int .i64 t0, .int .i64 t1, .int .i64 u0, .int .i64 u1], .int .i64 0, .int .i64 whn, .int .i64 now] w fun e w' => e = .returned (.tuple #[.agg #[.bool c, .bool r0, .bool r1, .int .i64 0, .int .i64 t1, .int .i64 whn, .int .i64 u1], .int .i64 t0, .agg #[.int .i64 0, .int .i64 0]]) ∧ Below w.heap.size w w' := by
  have HC : Hid (∀ W, Calls Try.prog 23 #[.agg #[.bool c, .bool r0, .bool r1, .int .i64 t0, .int .i64 t1, .int .i64 u0, .int .i64 u1], .int .i64 0, .int .i64 whn, .int .i64 now] W fun e w' => e = .returned (.agg #[.int .i64 0, .int .i64 F1]) ∧ Below W.heap.size W w') := fun W => checkUntil_any W c r0 r1 t0 t1 u0 u1 0 whn now C0 C1 0 F1 hC hF
  have HL : Hid (∀ W, Calls Try.prog 20 #[.agg #[.bool c, .bool r0, .bool r1, .int .i64 t0, .int .i64 t1, .int .i64 whn, .int .i64 u1], .int .i64 0, .int .i64 now] W fun e w' => e = .returned (.bool true) ∧ Below W.heap.size W w') := fun W => by have := lateOn0_any W c r0 r1 t0 t1 whn u1 now; rw [hl] at this; exact this
  have HV : Hid (∀ W, Calls Try.prog 22 #[.agg #[.bool c, .bool r0, .bool r1, .int .i64 t0, .int .i64 t1, .int .i64 whn, .int .i64 u1], .int .i64 0] W fun e w' => e = .returned (.tuple #[.agg #[.bool c, .bool r0, .bool r1, .int .i64 0, .int .i64 t1, .int .i64 whn, .int .i64 u1], .int .i64 t0]) ∧ Below W.heap.size W w') := fun W => leave0_any W c r0 r1 t0 t1 whn u1
  clear hF hC hl
  obtain ⟨W0, e0, hB, k0, k1, k2⟩ := three_new w (.cells #[.bool c, .bool r0, .bool r1, .int .i64 t0, .int .i64 t1, .int .i64 u0, .int .i64 u1] 25) (.cells #[.bool false, .bool false, .bool false, .int .i64 0, .int .i64 0, .int .i64 0, .int .i64 0] 25) (.cells #[.int .i64 0, .int .i64 0] 27)
  have HX := hide hB; have HE := hide e0; have HD := hide k0; have HZ := hide k1; have HG := hide k2
  clear hB e0 k0 k1 k2
  go_enter Try.func14, Try.ntmps14
  go_upto_region 1 with fail
  rw [unhide HE]
  clear HE
  obtain ⟨⟨p0, p1, p2, p3, p4, p5, p6⟩, ⟨pf0, pf1, pf2, pf3, pf4, pf5, pf6⟩, pl⟩ := block7 (unhide HD)
  go_upto_region 2 with (go_at_call 23; refine (unhide HC _).mono ?_; rintro e w1 ⟨rfl, hb1⟩; have HX' := hide (Below.next (unhide HX) hb1 (Nat.le_refl _)); have HD' := hide (keep_below (unhide HD) hb1); have HZ' := hide (keep_below (unhide HZ) hb1); have HG' := hide (keep_below (unhide HG) hb1); clear p0 p1 p2 p3 p4 p5 p6 pf0 pf1 pf2 pf3 pf4 pf5 pf6 pl ; clear HX HD HZ HG hb1; have HX := HX'; have HD := HD'; have HZ := HZ'; have HG := HG'; clear HX' HD' HZ' HG')
  obtain ⟨W1, e1, hB1, k1⟩ := one_new w1 (.cells #[.int .i64 0, .int .i64 F1] 27)
  rw [e1]
  have HX' := hide (Below.next (unhide HX) hB1 (Nat.le_refl _))
  have HD' := hide (keep_below (unhide HD) hB1)
  have HZ' := hide (keep_below (unhide HZ) hB1)
  have HG' := hide (keep_below (unhide HG) hB1)
  have hlD_F := size_of (unhide HD)
  have hlZ_F := size_of (unhide HZ)
  have hlG_F := size_of (unhide HG)
  have HF := hide k1
  clear e1 hB1 k1 HX HD HZ HG
  have HX := HX'; have HD := HD'; have HZ := HZ'; have HG := HG'
  clear HX' HD' HZ' HG'
  obtain ⟨TF, eTF⟩ : ∃ X, w1.heap.size = X := ⟨_, rfl⟩
  rw [eTF] at HF hlD_F hlZ_F hlG_F ⊢
  clear eTF
  obtain ⟨f0, f1, ff0, ff1, fl⟩ := block2 (unhide HF)
  obtain ⟨g0, g1, gf0, gf1, gl⟩ := block2 (unhide HG)
  obtain ⟨⟨p0, p1, p2, p3, p4, p5, p6⟩, ⟨pf0, pf1, pf2, pf3, pf4, pf5, pf6⟩, pl⟩ := block7 (unhide HD)
  obtain ⟨⟨z0, z1, z2, z3, z4, z5, z6⟩, ⟨zf0, zf1, zf2, zf3, zf4, zf5, zf6⟩, zl⟩ := block7 (unhide HZ)
  have uf : w.heap.size + 1 + 1 ≠ TF := by omega
  have uf2 : TF ≠ w.heap.size + 1 + 1 := by omega
  have ug : w.heap.size + 1 ≠ TF := by omega
  have ug2 : TF ≠ w.heap.size + 1 := by omega
  go_upto_region 5 with fail
  have HX' := hide (below_set (i := 5) (unhide HX) (show w.heap.size ≤ w.heap.size from Nat.le_refl _) (.int .i64 whn))
  have HD' := hide (set_block7 (i := 5) (y := .int .i64 whn) (unhide HD))
  have HZ' := hide (keep_set (g := w.heap.size) (o := 5) (v := .int .i64 whn) (unhide HZ) (by omega))
  have HG' := hide (keep_set (g := w.heap.size) (o := 5) (v := .int .i64 whn) (unhide HG) (by omega))
  have HF' := hide (keep_set (g := w.heap.size) (o := 5) (v := .int .i64 whn) (unhide HF) (by omega))
  clear p0 p1 p2 p3 p4 p5 p6 pf0 pf1 pf2 pf3 pf4 pf5 pf6 pl
  clear z0 z1 z2 z3 z4 z5 z6 zf0 zf1 zf2 zf3 zf4 zf5 zf6 zl g0 g1 gf0 gf1 gl f0 f1 ff0 ff1 fl
  clear HX HD HZ HG HF
  obtain ⟨W2, eW2⟩ : ∃ X, W1.setCell ⟨w.heap.size, 5, none⟩ (.int .i64 whn) = X := ⟨_, rfl⟩
  rw [eW2] at HX' HD' HZ' HG' HF' ⊢
  clear eW2
  simp only [List.setIfInBounds_toArray, List.set_cons_zero, List.set_cons_succ] at HD'
  have HX := HX'; have HD := HD'; have HZ := HZ'; have HG := HG'; have HF := HF'
  clear HX' HD' HZ' HG' HF'
  obtain ⟨g0, g1, gf0, gf1, gl⟩ := block2 (unhide HG)
  obtain ⟨⟨p0, p1, p2, p3, p4, p5, p6⟩, ⟨pf0, pf1, pf2, pf3, pf4, pf5, pf6⟩, pl⟩ := block7 (unhide HD)
  obtain ⟨⟨z0, z1, z2, z3, z4, z5, z6⟩, ⟨zf0, zf1, zf2, zf3, zf4, zf5, zf6⟩, zl⟩ := block7 (unhide HZ)
  go_upto_region 8 with (first | (go_at_call 20; refine (unhide HL _).mono ?_; rintro e w3 ⟨rfl, hb3⟩; have HX' := hide (Below.next (unhide HX) hb3 (Nat.le_refl _)); have HD' := hide (keep_below (unhide HD) hb3); have HZ' := hide (keep_below (unhide HZ) hb3); have HG' := hide (keep_below (unhide HG) hb3); have HF' := hide (keep_below (unhide HF) hb3); clear HX HD HZ HG HF hb3; have HX := HX'; have HD := HD'; have HZ := HZ'; have HG := HG'; have HF := HF'; clear HX' HD' HZ' HG' HF'; clear p0 p1 p2 p3 p4 p5 p6 pf0 pf1 pf2 pf3 pf4 pf5 pf6 pl; clear z0 z1 z2 z3 z4 z5 z6 zf0 zf1 zf2 zf3 zf4 zf5 zf6 zl g0 g1 gf0 gf1 gl; obtain ⟨g0, g1, gf0, gf1, gl⟩ := block2 (unhide HG); obtain ⟨⟨p0, p1, p2, p3, p4, p5, p6⟩, ⟨pf0, pf1, pf2, pf3, pf4, pf5, pf6⟩, pl⟩ := block7 (unhide HD); obtain ⟨⟨z0, z1, z2, z3, z4, z5, z6⟩, ⟨zf0, zf1, zf2, zf3, zf4, zf5, zf6⟩, zl⟩ := block7 (unhide HZ)) | (go_at_call 22; refine (unhide HV _).mono ?_; rintro e w4 ⟨rfl, hb4⟩; have HX' := hide (Below.next (unhide HX) hb4 (Nat.le_refl _)); have HD' := hide (keep_below (unhide HD) hb4); have HZ' := hide (keep_below (unhide HZ) hb4); have HG' := hide (keep_below (unhide HG) hb4); have HF' := hide (keep_below (unhide HF) hb4); clear HX HD HZ HG HF hb4; have HX := HX'; have HD := HD'; have HZ := HZ'; have HG := HG'; have HF := HF'; clear HX' HD' HZ' HG' HF'; clear p0 p1 p2 p3 p4 p5 p6 pf0 pf1 pf2 pf3 pf4 pf5 pf6 pl; clear z0 z1 z2 z3 z4 z5 z6 zf0 zf1 zf2 zf3 zf4 zf5 zf6 zl g0 g1 gf0 gf1 gl))
  obtain ⟨W4, e4, hB4, k4⟩ := one_new w4 (.cells #[.bool c, .bool r0, .bool r1, .int .i64 0, .int .i64 t1, .int .i64 whn, .int .i64 u1] 25)
  rw [e4]
  have HX' := hide (Below.next (unhide HX) hB4 (Nat.le_refl _))
  have HD' := hide (keep_below (unhide HD) hB4)
  have HZ' := hide (keep_below (unhide HZ) hB4)
  have HG' := hide (keep_below (unhide HG) hB4)
  have HF' := hide (keep_below (unhide HF) hB4)
  have hlD_H := size_of (unhide HD)
  have hlZ_H := size_of (unhide HZ)
  have hlG_H := size_of (unhide HG)
  have hlF_H := size_of (unhide HF)
  have HH := hide k4
  clear e4 hB4 k4 HX HD HZ HG HF
  have HX := HX'; have HD := HD'; have HZ := HZ'; have HG := HG'; have HF := HF'
  clear HX' HD' HZ' HG' HF'
  obtain ⟨TH, eTH⟩ : ∃ X, w4.heap.size = X := ⟨_, rfl⟩
  rw [eTH] at HH hlD_H hlZ_H hlG_H hlF_H ⊢
  clear eTH
  obtain ⟨⟨h0, h1, h2, h3, h4, h5, h6⟩, ⟨hf0, hf1, hf2, hf3, hf4, hf5, hf6⟩, hl⟩ := block7 (unhide HH)
  obtain ⟨g0, g1, gf0, gf1, gl⟩ := block2 (unhide HG)
  obtain ⟨⟨z0, z1, z2, z3, z4, z5, z6⟩, ⟨zf0, zf1, zf2, zf3, zf4, zf5, zf6⟩, zl⟩ := block7 (unhide HZ)
  have uh : w.heap.size + 1 + 1 ≠ TH := by omega
  have uh2 : TH ≠ w.heap.size + 1 + 1 := by omega
  have ui : w.heap.size + 1 ≠ TH := by omega
  have ui2 : TH ≠ w.heap.size + 1 := by omega
  go_wp2_with fail
  exact bodyPost_ret (v := .tuple #[.agg #[.bool c, .bool r0, .bool r1, .int .i64 0, .int .i64 t1, .int .i64 whn, .int .i64 u1], .int .i64 t0, .agg #[.int .i64 0, .int .i64 0]]) (by simp [results, Try.results14, go_sem, g0, g1, z0, z1, z2, z3, z4, z5, z6]) rfl ⟨rfl, (by repeat (first | with_reducible exact unhide HX | with_reducible refine drew_below ?_ | (with_reducible refine below_set ?_ (by omega) _)))⟩

set_option maxRecDepth 100000 in
set_option maxHeartbeats 2000000 in
theorem until1_not (w : World) (c r0 r1 : Bool) (t0 t1 u0 u1 whn now C0 C1 F1 : Int) (hC : descF c r0 r1 t0 t1 u0 u1 = (C0, C1)) (hF : untilF (onF (C0, C1) 1) c whn now = (0, F1)) (hl : late whn now = false) :
    Calls Try.prog 14 #[.agg #[.bool c, .bool r0, .bool r1, .int .i64 t0, .int .i64 t1, .int .i64 u0, .int .i64 u1], .int .i64 1, .int .i64 whn, .int .i64 now] w fun e w' => e = .returned (.tuple #[.agg #[.bool c, .bool r0, .bool r1, .int .i64 t0, .int .i64 t1, .int .i64 u0, .int .i64 whn], .int .i64 0, .agg #[.int .i64 0, .int .i64 0]]) ∧ Below w.heap.size w w' := by
  have HC : Hid (∀ W, Calls Try.prog 23 #[.agg #[.bool c, .bool r0, .bool r1, .int .i64 t0, .int .i64 t1, .int .i64 u0, .int .i64 u1], .int .i64 1, .int .i64 whn, .int .i64 now] W fun e w' => e = .returned (.agg #[.int .i64 0, .int .i64 F1]) ∧ Below W.heap.size W w') := fun W => checkUntil_any W c r0 r1 t0 t1 u0 u1 1 whn now C0 C1 0 F1 hC hF
  have HL : Hid (∀ W, Calls Try.prog 20 #[.agg #[.bool c, .bool r0, .bool r1, .int .i64 t0, .int .i64 t1, .int .i64 u0, .int .i64 whn], .int .i64 1, .int .i64 now] W fun e w' => e = .returned (.bool false) ∧ Below W.heap.size W w') := fun W => by have := lateOn1_any W c r0 r1 t0 t1 u0 whn now; rw [hl] at this; exact this
  have HV : Hid (∀ W, Calls Try.prog 22 #[.agg #[.bool c, .bool r0, .bool r1, .int .i64 t0, .int .i64 t1, .int .i64 u0, .int .i64 whn], .int .i64 1] W fun e w' => e = .returned (.tuple #[.agg #[.bool c, .bool r0, .bool r1, .int .i64 t0, .int .i64 0, .int .i64 u0, .int .i64 whn], .int .i64 t1]) ∧ Below W.heap.size W w') := fun W => leave1_any W c r0 r1 t0 t1 u0 whn
  clear hF hC hl
  obtain ⟨W0, e0, hB, k0, k1, k2⟩ := three_new w (.cells #[.bool c, .bool r0, .bool r1, .int .i64 t0, .int .i64 t1, .int .i64 u0, .int .i64 u1] 25) (.cells #[.bool false, .bool false, .bool false, .int .i64 0, .int .i64 0, .int .i64 0, .int .i64 0] 25) (.cells #[.int .i64 0, .int .i64 0] 27)
  have HX := hide hB; have HE := hide e0; have HD := hide k0; have HZ := hide k1; have HG := hide k2
  clear hB e0 k0 k1 k2
  go_enter Try.func14, Try.ntmps14
  go_upto_region 1 with fail
  rw [unhide HE]
  clear HE
  obtain ⟨⟨p0, p1, p2, p3, p4, p5, p6⟩, ⟨pf0, pf1, pf2, pf3, pf4, pf5, pf6⟩, pl⟩ := block7 (unhide HD)
  go_upto_region 2 with (go_at_call 23; refine (unhide HC _).mono ?_; rintro e w1 ⟨rfl, hb1⟩; have HX' := hide (Below.next (unhide HX) hb1 (Nat.le_refl _)); have HD' := hide (keep_below (unhide HD) hb1); have HZ' := hide (keep_below (unhide HZ) hb1); have HG' := hide (keep_below (unhide HG) hb1); clear p0 p1 p2 p3 p4 p5 p6 pf0 pf1 pf2 pf3 pf4 pf5 pf6 pl ; clear HX HD HZ HG hb1; have HX := HX'; have HD := HD'; have HZ := HZ'; have HG := HG'; clear HX' HD' HZ' HG')
  obtain ⟨W1, e1, hB1, k1⟩ := one_new w1 (.cells #[.int .i64 0, .int .i64 F1] 27)
  rw [e1]
  have HX' := hide (Below.next (unhide HX) hB1 (Nat.le_refl _))
  have HD' := hide (keep_below (unhide HD) hB1)
  have HZ' := hide (keep_below (unhide HZ) hB1)
  have HG' := hide (keep_below (unhide HG) hB1)
  have hlD_F := size_of (unhide HD)
  have hlZ_F := size_of (unhide HZ)
  have hlG_F := size_of (unhide HG)
  have HF := hide k1
  clear e1 hB1 k1 HX HD HZ HG
  have HX := HX'; have HD := HD'; have HZ := HZ'; have HG := HG'
  clear HX' HD' HZ' HG'
  obtain ⟨TF, eTF⟩ : ∃ X, w1.heap.size = X := ⟨_, rfl⟩
  rw [eTF] at HF hlD_F hlZ_F hlG_F ⊢
  clear eTF
  obtain ⟨f0, f1, ff0, ff1, fl⟩ := block2 (unhide HF)
  obtain ⟨g0, g1, gf0, gf1, gl⟩ := block2 (unhide HG)
  obtain ⟨⟨p0, p1, p2, p3, p4, p5, p6⟩, ⟨pf0, pf1, pf2, pf3, pf4, pf5, pf6⟩, pl⟩ := block7 (unhide HD)
  obtain ⟨⟨z0, z1, z2, z3, z4, z5, z6⟩, ⟨zf0, zf1, zf2, zf3, zf4, zf5, zf6⟩, zl⟩ := block7 (unhide HZ)
  have uf : w.heap.size + 1 + 1 ≠ TF := by omega
  have uf2 : TF ≠ w.heap.size + 1 + 1 := by omega
  have ug : w.heap.size + 1 ≠ TF := by omega
  have ug2 : TF ≠ w.heap.size + 1 := by omega
  go_upto_region 5 with fail
  have HX' := hide (below_set (i := 6) (unhide HX) (show w.heap.size ≤ w.heap.size from Nat.le_refl _) (.int .i64 whn))
  have HD' := hide (set_block7 (i := 6) (y := .int .i64 whn) (unhide HD))
  have HZ' := hide (keep_set (g := w.heap.size) (o := 6) (v := .int .i64 whn) (unhide HZ) (by omega))
  have HG' := hide (keep_set (g := w.heap.size) (o := 6) (v := .int .i64 whn) (unhide HG) (by omega))
  have HF' := hide (keep_set (g := w.heap.size) (o := 6) (v := .int .i64 whn) (unhide HF) (by omega))
  clear p0 p1 p2 p3 p4 p5 p6 pf0 pf1 pf2 pf3 pf4 pf5 pf6 pl
  clear z0 z1 z2 z3 z4 z5 z6 zf0 zf1 zf2 zf3 zf4 zf5 zf6 zl g0 g1 gf0 gf1 gl f0 f1 ff0 ff1 fl
  clear HX HD HZ HG HF
  obtain ⟨W2, eW2⟩ : ∃ X, W1.setCell ⟨w.heap.size, 6, none⟩ (.int .i64 whn) = X := ⟨_, rfl⟩
  rw [eW2] at HX' HD' HZ' HG' HF' ⊢
  clear eW2
  simp only [List.setIfInBounds_toArray, List.set_cons_zero, List.set_cons_succ] at HD'
  have HX := HX'; have HD := HD'; have HZ := HZ'; have HG := HG'; have HF := HF'
  clear HX' HD' HZ' HG' HF'
  obtain ⟨g0, g1, gf0, gf1, gl⟩ := block2 (unhide HG)
  obtain ⟨⟨p0, p1, p2, p3, p4, p5, p6⟩, ⟨pf0, pf1, pf2, pf3, pf4, pf5, pf6⟩, pl⟩ := block7 (unhide HD)
  obtain ⟨⟨z0, z1, z2, z3, z4, z5, z6⟩, ⟨zf0, zf1, zf2, zf3, zf4, zf5, zf6⟩, zl⟩ := block7 (unhide HZ)
  go_wp2_with (go_at_call 20; refine (unhide HL _).mono ?_; rintro e w3 ⟨rfl, hb3⟩; have HX' := hide (Below.next (unhide HX) hb3 (Nat.le_refl _)); have HD' := hide (keep_below (unhide HD) hb3); have HZ' := hide (keep_below (unhide HZ) hb3); have HG' := hide (keep_below (unhide HG) hb3); have HF' := hide (keep_below (unhide HF) hb3); clear HX HD HZ HG HF hb3; have HX := HX'; have HD := HD'; have HZ := HZ'; have HG := HG'; have HF := HF'; clear HX' HD' HZ' HG' HF'; clear p0 p1 p2 p3 p4 p5 p6 pf0 pf1 pf2 pf3 pf4 pf5 pf6 pl; clear z0 z1 z2 z3 z4 z5 z6 zf0 zf1 zf2 zf3 zf4 zf5 zf6 zl g0 g1 gf0 gf1 gl; obtain ⟨g0, g1, gf0, gf1, gl⟩ := block2 (unhide HG); obtain ⟨⟨p0, p1, p2, p3, p4, p5, p6⟩, ⟨pf0, pf1, pf2, pf3, pf4, pf5, pf6⟩, pl⟩ := block7 (unhide HD); obtain ⟨⟨z0, z1, z2, z3, z4, z5, z6⟩, ⟨zf0, zf1, zf2, zf3, zf4, zf5, zf6⟩, zl⟩ := block7 (unhide HZ))
  exact bodyPost_ret (v := .tuple #[.agg #[.bool c, .bool r0, .bool r1, .int .i64 t0, .int .i64 t1, .int .i64 u0, .int .i64 whn], .int .i64 0, .agg #[.int .i64 0, .int .i64 0]]) (by simp [results, Try.results14, go_sem, g0, g1, z0, z1, z2, z3, z4, z5, z6]) rfl ⟨rfl, (by repeat (first | with_reducible exact unhide HX | with_reducible refine drew_below ?_ | (with_reducible refine below_set ?_ (by omega) _)))⟩

set_option maxRecDepth 100000 in
set_option maxHeartbeats 2000000 in
theorem until1_late (w : World) (c r0 r1 : Bool) (t0 t1 u0 u1 whn now C0 C1 F1 : Int) (hC : descF c r0 r1 t0 t1 u0 u1 = (C0, C1)) (hF : untilF (onF (C0, C1) 1) c whn now = (0, F1)) (hl : late whn now = true) :
    Calls Try.prog 14 #[.agg #[.bool c, .bool r0, .bool r1, .int .i64 t0, .int .i64 t1, .int .i64 u0, .int .i64 u1], .int .i64 1, .int .i64 whn, .int .i64 now] w fun e w' => e = .returned (.tuple #[.agg #[.bool c, .bool r0, .bool r1, .int .i64 t0, .int .i64 0, .int .i64 u0, .int .i64 whn], .int .i64 t1, .agg #[.int .i64 0, .int .i64 0]]) ∧ Below w.heap.size w w' := by
  have HC : Hid (∀ W, Calls Try.prog 23 #[.agg #[.bool c, .bool r0, .bool r1, .int .i64 t0, .int .i64 t1, .int .i64 u0, .int .i64 u1], .int .i64 1, .int .i64 whn, .int .i64 now] W fun e w' => e = .returned (.agg #[.int .i64 0, .int .i64 F1]) ∧ Below W.heap.size W w') := fun W => checkUntil_any W c r0 r1 t0 t1 u0 u1 1 whn now C0 C1 0 F1 hC hF
  have HL : Hid (∀ W, Calls Try.prog 20 #[.agg #[.bool c, .bool r0, .bool r1, .int .i64 t0, .int .i64 t1, .int .i64 u0, .int .i64 whn], .int .i64 1, .int .i64 now] W fun e w' => e = .returned (.bool true) ∧ Below W.heap.size W w') := fun W => by have := lateOn1_any W c r0 r1 t0 t1 u0 whn now; rw [hl] at this; exact this
  have HV : Hid (∀ W, Calls Try.prog 22 #[.agg #[.bool c, .bool r0, .bool r1, .int .i64 t0, .int .i64 t1, .int .i64 u0, .int .i64 whn], .int .i64 1] W fun e w' => e = .returned (.tuple #[.agg #[.bool c, .bool r0, .bool r1, .int .i64 t0, .int .i64 0, .int .i64 u0, .int .i64 whn], .int .i64 t1]) ∧ Below W.heap.size W w') := fun W => leave1_any W c r0 r1 t0 t1 u0 whn
  clear hF hC hl
  obtain ⟨W0, e0, hB, k0, k1, k2⟩ := three_new w (.cells #[.bool c, .bool r0, .bool r1, .int .i64 t0, .int .i64 t1, .int .i64 u0, .int .i64 u1] 25) (.cells #[.bool false, .bool false, .bool false, .int .i64 0, .int .i64 0, .int .i64 0, .int .i64 0] 25) (.cells #[.int .i64 0, .int .i64 0] 27)
  have HX := hide hB; have HE := hide e0; have HD := hide k0; have HZ := hide k1; have HG := hide k2
  clear hB e0 k0 k1 k2
  go_enter Try.func14, Try.ntmps14
  go_upto_region 1 with fail
  rw [unhide HE]
  clear HE
  obtain ⟨⟨p0, p1, p2, p3, p4, p5, p6⟩, ⟨pf0, pf1, pf2, pf3, pf4, pf5, pf6⟩, pl⟩ := block7 (unhide HD)
  go_upto_region 2 with (go_at_call 23; refine (unhide HC _).mono ?_; rintro e w1 ⟨rfl, hb1⟩; have HX' := hide (Below.next (unhide HX) hb1 (Nat.le_refl _)); have HD' := hide (keep_below (unhide HD) hb1); have HZ' := hide (keep_below (unhide HZ) hb1); have HG' := hide (keep_below (unhide HG) hb1); clear p0 p1 p2 p3 p4 p5 p6 pf0 pf1 pf2 pf3 pf4 pf5 pf6 pl ; clear HX HD HZ HG hb1; have HX := HX'; have HD := HD'; have HZ := HZ'; have HG := HG'; clear HX' HD' HZ' HG')
  obtain ⟨W1, e1, hB1, k1⟩ := one_new w1 (.cells #[.int .i64 0, .int .i64 F1] 27)
  rw [e1]
  have HX' := hide (Below.next (unhide HX) hB1 (Nat.le_refl _))
  have HD' := hide (keep_below (unhide HD) hB1)
  have HZ' := hide (keep_below (unhide HZ) hB1)
  have HG' := hide (keep_below (unhide HG) hB1)
  have hlD_F := size_of (unhide HD)
  have hlZ_F := size_of (unhide HZ)
  have hlG_F := size_of (unhide HG)
  have HF := hide k1
  clear e1 hB1 k1 HX HD HZ HG
  have HX := HX'; have HD := HD'; have HZ := HZ'; have HG := HG'
  clear HX' HD' HZ' HG'
  obtain ⟨TF, eTF⟩ : ∃ X, w1.heap.size = X := ⟨_, rfl⟩
  rw [eTF] at HF hlD_F hlZ_F hlG_F ⊢
  clear eTF
  obtain ⟨f0, f1, ff0, ff1, fl⟩ := block2 (unhide HF)
  obtain ⟨g0, g1, gf0, gf1, gl⟩ := block2 (unhide HG)
  obtain ⟨⟨p0, p1, p2, p3, p4, p5, p6⟩, ⟨pf0, pf1, pf2, pf3, pf4, pf5, pf6⟩, pl⟩ := block7 (unhide HD)
  obtain ⟨⟨z0, z1, z2, z3, z4, z5, z6⟩, ⟨zf0, zf1, zf2, zf3, zf4, zf5, zf6⟩, zl⟩ := block7 (unhide HZ)
  have uf : w.heap.size + 1 + 1 ≠ TF := by omega
  have uf2 : TF ≠ w.heap.size + 1 + 1 := by omega
  have ug : w.heap.size + 1 ≠ TF := by omega
  have ug2 : TF ≠ w.heap.size + 1 := by omega
  go_upto_region 5 with fail
  have HX' := hide (below_set (i := 6) (unhide HX) (show w.heap.size ≤ w.heap.size from Nat.le_refl _) (.int .i64 whn))
  have HD' := hide (set_block7 (i := 6) (y := .int .i64 whn) (unhide HD))
  have HZ' := hide (keep_set (g := w.heap.size) (o := 6) (v := .int .i64 whn) (unhide HZ) (by omega))
  have HG' := hide (keep_set (g := w.heap.size) (o := 6) (v := .int .i64 whn) (unhide HG) (by omega))
  have HF' := hide (keep_set (g := w.heap.size) (o := 6) (v := .int .i64 whn) (unhide HF) (by omega))
  clear p0 p1 p2 p3 p4 p5 p6 pf0 pf1 pf2 pf3 pf4 pf5 pf6 pl
  clear z0 z1 z2 z3 z4 z5 z6 zf0 zf1 zf2 zf3 zf4 zf5 zf6 zl g0 g1 gf0 gf1 gl f0 f1 ff0 ff1 fl
  clear HX HD HZ HG HF
  obtain ⟨W2, eW2⟩ : ∃ X, W1.setCell ⟨w.heap.size, 6, none⟩ (.int .i64 whn) = X := ⟨_, rfl⟩
  rw [eW2] at HX' HD' HZ' HG' HF' ⊢
  clear eW2
  simp only [List.setIfInBounds_toArray, List.set_cons_zero, List.set_cons_succ] at HD'
  have HX := HX'; have HD := HD'; have HZ := HZ'; have HG := HG'; have HF := HF'
  clear HX' HD' HZ' HG' HF'
  obtain ⟨g0, g1, gf0, gf1, gl⟩ := block2 (unhide HG)
  obtain ⟨⟨p0, p1, p2, p3, p4, p5, p6⟩, ⟨pf0, pf1, pf2, pf3, pf4, pf5, pf6⟩, pl⟩ := block7 (unhide HD)
  obtain ⟨⟨z0, z1, z2, z3, z4, z5, z6⟩, ⟨zf0, zf1, zf2, zf3, zf4, zf5, zf6⟩, zl⟩ := block7 (unhide HZ)
  go_upto_region 8 with (first | (go_at_call 20; refine (unhide HL _).mono ?_; rintro e w3 ⟨rfl, hb3⟩; have HX' := hide (Below.next (unhide HX) hb3 (Nat.le_refl _)); have HD' := hide (keep_below (unhide HD) hb3); have HZ' := hide (keep_below (unhide HZ) hb3); have HG' := hide (keep_below (unhide HG) hb3); have HF' := hide (keep_below (unhide HF) hb3); clear HX HD HZ HG HF hb3; have HX := HX'; have HD := HD'; have HZ := HZ'; have HG := HG'; have HF := HF'; clear HX' HD' HZ' HG' HF'; clear p0 p1 p2 p3 p4 p5 p6 pf0 pf1 pf2 pf3 pf4 pf5 pf6 pl; clear z0 z1 z2 z3 z4 z5 z6 zf0 zf1 zf2 zf3 zf4 zf5 zf6 zl g0 g1 gf0 gf1 gl; obtain ⟨g0, g1, gf0, gf1, gl⟩ := block2 (unhide HG); obtain ⟨⟨p0, p1, p2, p3, p4, p5, p6⟩, ⟨pf0, pf1, pf2, pf3, pf4, pf5, pf6⟩, pl⟩ := block7 (unhide HD); obtain ⟨⟨z0, z1, z2, z3, z4, z5, z6⟩, ⟨zf0, zf1, zf2, zf3, zf4, zf5, zf6⟩, zl⟩ := block7 (unhide HZ)) | (go_at_call 22; refine (unhide HV _).mono ?_; rintro e w4 ⟨rfl, hb4⟩; have HX' := hide (Below.next (unhide HX) hb4 (Nat.le_refl _)); have HD' := hide (keep_below (unhide HD) hb4); have HZ' := hide (keep_below (unhide HZ) hb4); have HG' := hide (keep_below (unhide HG) hb4); have HF' := hide (keep_below (unhide HF) hb4); clear HX HD HZ HG HF hb4; have HX := HX'; have HD := HD'; have HZ := HZ'; have HG := HG'; have HF := HF'; clear HX' HD' HZ' HG' HF'; clear p0 p1 p2 p3 p4 p5 p6 pf0 pf1 pf2 pf3 pf4 pf5 pf6 pl; clear z0 z1 z2 z3 z4 z5 z6 zf0 zf1 zf2 zf3 zf4 zf5 zf6 zl g0 g1 gf0 gf1 gl))
  obtain ⟨W4, e4, hB4, k4⟩ := one_new w4 (.cells #[.bool c, .bool r0, .bool r1, .int .i64 t0, .int .i64 0, .int .i64 u0, .int .i64 whn] 25)
  rw [e4]
  have HX' := hide (Below.next (unhide HX) hB4 (Nat.le_refl _))
  have HD' := hide (keep_below (unhide HD) hB4)
  have HZ' := hide (keep_below (unhide HZ) hB4)
  have HG' := hide (keep_below (unhide HG) hB4)
  have HF' := hide (keep_below (unhide HF) hB4)
  have hlD_H := size_of (unhide HD)
  have hlZ_H := size_of (unhide HZ)
  have hlG_H := size_of (unhide HG)
  have hlF_H := size_of (unhide HF)
  have HH := hide k4
  clear e4 hB4 k4 HX HD HZ HG HF
  have HX := HX'; have HD := HD'; have HZ := HZ'; have HG := HG'; have HF := HF'
  clear HX' HD' HZ' HG' HF'
  obtain ⟨TH, eTH⟩ : ∃ X, w4.heap.size = X := ⟨_, rfl⟩
  rw [eTH] at HH hlD_H hlZ_H hlG_H hlF_H ⊢
  clear eTH
  obtain ⟨⟨h0, h1, h2, h3, h4, h5, h6⟩, ⟨hf0, hf1, hf2, hf3, hf4, hf5, hf6⟩, hl⟩ := block7 (unhide HH)
  obtain ⟨g0, g1, gf0, gf1, gl⟩ := block2 (unhide HG)
  obtain ⟨⟨z0, z1, z2, z3, z4, z5, z6⟩, ⟨zf0, zf1, zf2, zf3, zf4, zf5, zf6⟩, zl⟩ := block7 (unhide HZ)
  have uh : w.heap.size + 1 + 1 ≠ TH := by omega
  have uh2 : TH ≠ w.heap.size + 1 + 1 := by omega
  have ui : w.heap.size + 1 ≠ TH := by omega
  have ui2 : TH ≠ w.heap.size + 1 := by omega
  go_wp2_with fail
  exact bodyPost_ret (v := .tuple #[.agg #[.bool c, .bool r0, .bool r1, .int .i64 t0, .int .i64 0, .int .i64 u0, .int .i64 whn], .int .i64 t1, .agg #[.int .i64 0, .int .i64 0]]) (by simp [results, Try.results14, go_sem, g0, g1, z0, z1, z2, z3, z4, z5, z6]) rfl ⟨rfl, (by repeat (first | with_reducible exact unhide HX | with_reducible refine drew_below ?_ | (with_reducible refine below_set ?_ (by omega) _)))⟩

end Go.Proofs.Ytmghfedlpndpiaa
